/-
  At every code of bytes the law FnMchIrq returns true (P17: if an interrupt comes, or waits, and they are let in, the step is that of a machine at MchVector; if they are not it waits); no condition.
  The frame (the steps lifted, over, proved) is the guide's shell, written by its program; the walk and the lemmas ahead of it are mine.
-/
import Derived.Test.YtnhpmbhphbphaaaGreatRows
import Derived.WalkKit
import Derived.ProofKit
import Derived.OpenShut
import Derived.Test.YtnhpmbhphbphaaaGreatSit
import Derived.Test.YtnhpmbhphbphaaaGreatMpC
import Derived.ShutString
import Derived.ChangeOld
import Derived.Below
namespace Go.Proofs.YtnhpmbhphbphaaaGreat.fnMchIrq
open Go.ChangeShapes Go.WideShapes Go.ChangeAt Go.RowKit
open Go.ChangeMaps (open_string shut_string)
set_option linter.unusedVariables false

theorem own : ownKnob Tryz.prog.godebug = none := by kernel_rfl
theorem laidOut : laidOutB Tryz.prog = true := by kernel_rfl

def IsRow (k : IntKind) (w : World) (a : Option Addr) (len cap : Nat) (zs : List Int) : Prop :=
  (a = none ∧ len = 0 ∧ cap = 0 ∧ zs = []) ∨
  ∃ x, a = some x ∧ len ≤ cap ∧ cap ≤ maxLen ∧ zs.length = cap ∧ (∀ i, i < zs.length → w.cell? (x.add i) = some (.int k (zs.getD i 0))) ∧ ∀ n ∈ zs, (Lit.int k n).wf = true

open IntS Mch
set_option linter.unusedVariables false
set_option linter.unusedSimpArgs false

set_option maxRecDepth 8000 in
set_option maxHeartbeats 16000000 in
theorem walk (a0 : Option Addr) (len0 cap0 : Nat) (z0 : List Int) (w : World) (w0 : IsRow .u8 w a0 len0 cap0 z0) :
    Calls Tryz.prog 5 #[.slice a0 len0 cap0] w fun e w' => e = .returned (.bool true) ∧ Below w.heap.size w w' := by
  obtain ⟨hlc, hm, hc⟩ := Draw.code_row w a0 len0 cap0 z0 w0
  by_cases hl : 1048576 < len0
  · unfold maxLen at hm
    go_enter Tryz.func5, Tryz.ntmps5
    go_wp2
    go_ret
    exact ⟨rfl, Below.refl _ _⟩
  clear w0
  go_enter Tryz.func5, Tryz.ntmps5
  go_wp2_with fail
  refine (Draw.drawStep a0 len0 cap0 _ hlc hm hc).mono ?_
  rintro e va ⟨c, m, irq, rfl, MC, MF, hb⟩
  have FM := hide MF
  have S0 : Hid (Sit w [] [] va) := ⟨hb, fun b h => absurd h (by simp), fun r h => absurd h (by simp)⟩
  have M0 := MC.write.read
  clear hc hm hlc hb MC MF
  have S := S0
  clear S0
  obtain ⟨aq1, aq2, aq3, aq4, ak1, ak2, ak3, ak4, rfl⟩ := rforms M0
  have S2 := hide (Sit.add S.out M0)
  simp only [mv] at M0 S2 ⊢
  clear S M0
  have S := S2
  clear S2
  go_wp2_with fail
  generalize hZ : va.heap.size = X1 at S ⊢
  clear hZ
  generalize va.alloc (.cells #[.slice aq1 m.regs.length ak1, .int .i64 m.pc, .slice aq2 m.mem.length ak2, .int .i64 m.save, .bool m.lets, .bool m.waits, .int .i64 m.halt, .slice aq3 m.ins.length ak3, .slice aq4 m.outs.length ak4, .int .i64 m.count] 25) = wv1 at S ⊢
  have ac0 := (S.out.box (X1, [.slice aq1 m.regs.length ak1, .int .i64 m.pc, .slice aq2 m.mem.length ak2, .int .i64 m.save, .bool m.lets, .bool m.waits, .int .i64 m.halt, .slice aq3 m.ins.length ak3, .slice aq4 m.outs.length ak4, .int .i64 m.count], m) List.mem_cons_self).1.r.cell 0 _ rfl
  have ac1 := (S.out.box (X1, [.slice aq1 m.regs.length ak1, .int .i64 m.pc, .slice aq2 m.mem.length ak2, .int .i64 m.save, .bool m.lets, .bool m.waits, .int .i64 m.halt, .slice aq3 m.ins.length ak3, .slice aq4 m.outs.length ak4, .int .i64 m.count], m) List.mem_cons_self).1.r.cell 1 _ rfl
  have ac2 := (S.out.box (X1, [.slice aq1 m.regs.length ak1, .int .i64 m.pc, .slice aq2 m.mem.length ak2, .int .i64 m.save, .bool m.lets, .bool m.waits, .int .i64 m.halt, .slice aq3 m.ins.length ak3, .slice aq4 m.outs.length ak4, .int .i64 m.count], m) List.mem_cons_self).1.r.cell 2 _ rfl
  have ac3 := (S.out.box (X1, [.slice aq1 m.regs.length ak1, .int .i64 m.pc, .slice aq2 m.mem.length ak2, .int .i64 m.save, .bool m.lets, .bool m.waits, .int .i64 m.halt, .slice aq3 m.ins.length ak3, .slice aq4 m.outs.length ak4, .int .i64 m.count], m) List.mem_cons_self).1.r.cell 3 _ rfl
  have ac4 := (S.out.box (X1, [.slice aq1 m.regs.length ak1, .int .i64 m.pc, .slice aq2 m.mem.length ak2, .int .i64 m.save, .bool m.lets, .bool m.waits, .int .i64 m.halt, .slice aq3 m.ins.length ak3, .slice aq4 m.outs.length ak4, .int .i64 m.count], m) List.mem_cons_self).1.r.cell 4 _ rfl
  have ac5 := (S.out.box (X1, [.slice aq1 m.regs.length ak1, .int .i64 m.pc, .slice aq2 m.mem.length ak2, .int .i64 m.save, .bool m.lets, .bool m.waits, .int .i64 m.halt, .slice aq3 m.ins.length ak3, .slice aq4 m.outs.length ak4, .int .i64 m.count], m) List.mem_cons_self).1.r.cell 5 _ rfl
  have ac6 := (S.out.box (X1, [.slice aq1 m.regs.length ak1, .int .i64 m.pc, .slice aq2 m.mem.length ak2, .int .i64 m.save, .bool m.lets, .bool m.waits, .int .i64 m.halt, .slice aq3 m.ins.length ak3, .slice aq4 m.outs.length ak4, .int .i64 m.count], m) List.mem_cons_self).1.r.cell 6 _ rfl
  have ac7 := (S.out.box (X1, [.slice aq1 m.regs.length ak1, .int .i64 m.pc, .slice aq2 m.mem.length ak2, .int .i64 m.save, .bool m.lets, .bool m.waits, .int .i64 m.halt, .slice aq3 m.ins.length ak3, .slice aq4 m.outs.length ak4, .int .i64 m.count], m) List.mem_cons_self).1.r.cell 7 _ rfl
  have ac8 := (S.out.box (X1, [.slice aq1 m.regs.length ak1, .int .i64 m.pc, .slice aq2 m.mem.length ak2, .int .i64 m.save, .bool m.lets, .bool m.waits, .int .i64 m.halt, .slice aq3 m.ins.length ak3, .slice aq4 m.outs.length ak4, .int .i64 m.count], m) List.mem_cons_self).1.r.cell 8 _ rfl
  have ac9 := (S.out.box (X1, [.slice aq1 m.regs.length ak1, .int .i64 m.pc, .slice aq2 m.mem.length ak2, .int .i64 m.save, .bool m.lets, .bool m.waits, .int .i64 m.halt, .slice aq3 m.ins.length ak3, .slice aq4 m.outs.length ak4, .int .i64 m.count], m) List.mem_cons_self).1.r.cell 9 _ rfl
  obtain ⟨x, ex⟩ : ∃ x, stepM m irq = x := ⟨_, rfl⟩
  have EX := hide ex
  clear ex
  obtain ⟨ok, eo⟩ : ∃ ok, okM m = ok := ⟨_, rfl⟩
  have EO := hide eo
  clear eo
  refine (Mch.mchOk m _ _ (S.out.box (X1, [.slice aq1 m.regs.length ak1, .int .i64 m.pc, .slice aq2 m.mem.length ak2, .int .i64 m.save, .bool m.lets, .bool m.waits, .int .i64 m.halt, .slice aq3 m.ins.length ak3, .slice aq4 m.outs.length ak4, .int .i64 m.count], m) List.mem_cons_self).2).mono ?_
  rintro e wv2 ⟨rfl, hb⟩
  rw [EO.out]
  have S2 := hide (S.out.below hb)
  clear S
  have S := S2
  clear S2
  clear hb
  clear ac0 ac1 ac2 ac3 ac4 ac5 ac6 ac7 ac8 ac9
  cases ok with
  | false =>
    have ac0 := (S.out.box (X1, [.slice aq1 m.regs.length ak1, .int .i64 m.pc, .slice aq2 m.mem.length ak2, .int .i64 m.save, .bool m.lets, .bool m.waits, .int .i64 m.halt, .slice aq3 m.ins.length ak3, .slice aq4 m.outs.length ak4, .int .i64 m.count], m) List.mem_cons_self).1.r.cell 0 _ rfl
    have ac1 := (S.out.box (X1, [.slice aq1 m.regs.length ak1, .int .i64 m.pc, .slice aq2 m.mem.length ak2, .int .i64 m.save, .bool m.lets, .bool m.waits, .int .i64 m.halt, .slice aq3 m.ins.length ak3, .slice aq4 m.outs.length ak4, .int .i64 m.count], m) List.mem_cons_self).1.r.cell 1 _ rfl
    have ac2 := (S.out.box (X1, [.slice aq1 m.regs.length ak1, .int .i64 m.pc, .slice aq2 m.mem.length ak2, .int .i64 m.save, .bool m.lets, .bool m.waits, .int .i64 m.halt, .slice aq3 m.ins.length ak3, .slice aq4 m.outs.length ak4, .int .i64 m.count], m) List.mem_cons_self).1.r.cell 2 _ rfl
    have ac3 := (S.out.box (X1, [.slice aq1 m.regs.length ak1, .int .i64 m.pc, .slice aq2 m.mem.length ak2, .int .i64 m.save, .bool m.lets, .bool m.waits, .int .i64 m.halt, .slice aq3 m.ins.length ak3, .slice aq4 m.outs.length ak4, .int .i64 m.count], m) List.mem_cons_self).1.r.cell 3 _ rfl
    have ac4 := (S.out.box (X1, [.slice aq1 m.regs.length ak1, .int .i64 m.pc, .slice aq2 m.mem.length ak2, .int .i64 m.save, .bool m.lets, .bool m.waits, .int .i64 m.halt, .slice aq3 m.ins.length ak3, .slice aq4 m.outs.length ak4, .int .i64 m.count], m) List.mem_cons_self).1.r.cell 4 _ rfl
    have ac5 := (S.out.box (X1, [.slice aq1 m.regs.length ak1, .int .i64 m.pc, .slice aq2 m.mem.length ak2, .int .i64 m.save, .bool m.lets, .bool m.waits, .int .i64 m.halt, .slice aq3 m.ins.length ak3, .slice aq4 m.outs.length ak4, .int .i64 m.count], m) List.mem_cons_self).1.r.cell 5 _ rfl
    have ac6 := (S.out.box (X1, [.slice aq1 m.regs.length ak1, .int .i64 m.pc, .slice aq2 m.mem.length ak2, .int .i64 m.save, .bool m.lets, .bool m.waits, .int .i64 m.halt, .slice aq3 m.ins.length ak3, .slice aq4 m.outs.length ak4, .int .i64 m.count], m) List.mem_cons_self).1.r.cell 6 _ rfl
    have ac7 := (S.out.box (X1, [.slice aq1 m.regs.length ak1, .int .i64 m.pc, .slice aq2 m.mem.length ak2, .int .i64 m.save, .bool m.lets, .bool m.waits, .int .i64 m.halt, .slice aq3 m.ins.length ak3, .slice aq4 m.outs.length ak4, .int .i64 m.count], m) List.mem_cons_self).1.r.cell 7 _ rfl
    have ac8 := (S.out.box (X1, [.slice aq1 m.regs.length ak1, .int .i64 m.pc, .slice aq2 m.mem.length ak2, .int .i64 m.save, .bool m.lets, .bool m.waits, .int .i64 m.halt, .slice aq3 m.ins.length ak3, .slice aq4 m.outs.length ak4, .int .i64 m.count], m) List.mem_cons_self).1.r.cell 8 _ rfl
    have ac9 := (S.out.box (X1, [.slice aq1 m.regs.length ak1, .int .i64 m.pc, .slice aq2 m.mem.length ak2, .int .i64 m.save, .bool m.lets, .bool m.waits, .int .i64 m.halt, .slice aq3 m.ins.length ak3, .slice aq4 m.outs.length ak4, .int .i64 m.count], m) List.mem_cons_self).1.r.cell 9 _ rfl
    go_wp2_with fail
    refine (La.laOk _).mono ?_
    rintro e u ⟨rfl, rfl⟩
    have FIN := hide S.out.bw
    clear S
    go_wp2
    go_ret
    exact ⟨rfl, FIN.out⟩
  | true =>
    by_cases h0 : m.halt = 0
    case neg =>
      have n0 : (m.halt != 0) = true := bne_iff_ne.2 h0
      clear h0
      have ac0 := (S.out.box (X1, [.slice aq1 m.regs.length ak1, .int .i64 m.pc, .slice aq2 m.mem.length ak2, .int .i64 m.save, .bool m.lets, .bool m.waits, .int .i64 m.halt, .slice aq3 m.ins.length ak3, .slice aq4 m.outs.length ak4, .int .i64 m.count], m) List.mem_cons_self).1.r.cell 0 _ rfl
      have ac1 := (S.out.box (X1, [.slice aq1 m.regs.length ak1, .int .i64 m.pc, .slice aq2 m.mem.length ak2, .int .i64 m.save, .bool m.lets, .bool m.waits, .int .i64 m.halt, .slice aq3 m.ins.length ak3, .slice aq4 m.outs.length ak4, .int .i64 m.count], m) List.mem_cons_self).1.r.cell 1 _ rfl
      have ac2 := (S.out.box (X1, [.slice aq1 m.regs.length ak1, .int .i64 m.pc, .slice aq2 m.mem.length ak2, .int .i64 m.save, .bool m.lets, .bool m.waits, .int .i64 m.halt, .slice aq3 m.ins.length ak3, .slice aq4 m.outs.length ak4, .int .i64 m.count], m) List.mem_cons_self).1.r.cell 2 _ rfl
      have ac3 := (S.out.box (X1, [.slice aq1 m.regs.length ak1, .int .i64 m.pc, .slice aq2 m.mem.length ak2, .int .i64 m.save, .bool m.lets, .bool m.waits, .int .i64 m.halt, .slice aq3 m.ins.length ak3, .slice aq4 m.outs.length ak4, .int .i64 m.count], m) List.mem_cons_self).1.r.cell 3 _ rfl
      have ac4 := (S.out.box (X1, [.slice aq1 m.regs.length ak1, .int .i64 m.pc, .slice aq2 m.mem.length ak2, .int .i64 m.save, .bool m.lets, .bool m.waits, .int .i64 m.halt, .slice aq3 m.ins.length ak3, .slice aq4 m.outs.length ak4, .int .i64 m.count], m) List.mem_cons_self).1.r.cell 4 _ rfl
      have ac5 := (S.out.box (X1, [.slice aq1 m.regs.length ak1, .int .i64 m.pc, .slice aq2 m.mem.length ak2, .int .i64 m.save, .bool m.lets, .bool m.waits, .int .i64 m.halt, .slice aq3 m.ins.length ak3, .slice aq4 m.outs.length ak4, .int .i64 m.count], m) List.mem_cons_self).1.r.cell 5 _ rfl
      have ac6 := (S.out.box (X1, [.slice aq1 m.regs.length ak1, .int .i64 m.pc, .slice aq2 m.mem.length ak2, .int .i64 m.save, .bool m.lets, .bool m.waits, .int .i64 m.halt, .slice aq3 m.ins.length ak3, .slice aq4 m.outs.length ak4, .int .i64 m.count], m) List.mem_cons_self).1.r.cell 6 _ rfl
      have ac7 := (S.out.box (X1, [.slice aq1 m.regs.length ak1, .int .i64 m.pc, .slice aq2 m.mem.length ak2, .int .i64 m.save, .bool m.lets, .bool m.waits, .int .i64 m.halt, .slice aq3 m.ins.length ak3, .slice aq4 m.outs.length ak4, .int .i64 m.count], m) List.mem_cons_self).1.r.cell 7 _ rfl
      have ac8 := (S.out.box (X1, [.slice aq1 m.regs.length ak1, .int .i64 m.pc, .slice aq2 m.mem.length ak2, .int .i64 m.save, .bool m.lets, .bool m.waits, .int .i64 m.halt, .slice aq3 m.ins.length ak3, .slice aq4 m.outs.length ak4, .int .i64 m.count], m) List.mem_cons_self).1.r.cell 8 _ rfl
      have ac9 := (S.out.box (X1, [.slice aq1 m.regs.length ak1, .int .i64 m.pc, .slice aq2 m.mem.length ak2, .int .i64 m.save, .bool m.lets, .bool m.waits, .int .i64 m.halt, .slice aq3 m.ins.length ak3, .slice aq4 m.outs.length ak4, .int .i64 m.count], m) List.mem_cons_self).1.r.cell 9 _ rfl
      go_wp2_with fail
      refine (La.laOk _).mono ?_
      rintro e u ⟨rfl, rfl⟩
      have FIN := hide S.out.bw
      clear S
      go_wp2
      go_ret
      exact ⟨rfl, FIN.out⟩
    have n0 : (m.halt != 0) = false := by rw [h0]; rfl
    by_cases h1 : m.count = 1000000
    · have n1 : (m.count == 1000000) = true := by rw [h1]; rfl
      clear h0 h1
      have ac0 := (S.out.box (X1, [.slice aq1 m.regs.length ak1, .int .i64 m.pc, .slice aq2 m.mem.length ak2, .int .i64 m.save, .bool m.lets, .bool m.waits, .int .i64 m.halt, .slice aq3 m.ins.length ak3, .slice aq4 m.outs.length ak4, .int .i64 m.count], m) List.mem_cons_self).1.r.cell 0 _ rfl
      have ac1 := (S.out.box (X1, [.slice aq1 m.regs.length ak1, .int .i64 m.pc, .slice aq2 m.mem.length ak2, .int .i64 m.save, .bool m.lets, .bool m.waits, .int .i64 m.halt, .slice aq3 m.ins.length ak3, .slice aq4 m.outs.length ak4, .int .i64 m.count], m) List.mem_cons_self).1.r.cell 1 _ rfl
      have ac2 := (S.out.box (X1, [.slice aq1 m.regs.length ak1, .int .i64 m.pc, .slice aq2 m.mem.length ak2, .int .i64 m.save, .bool m.lets, .bool m.waits, .int .i64 m.halt, .slice aq3 m.ins.length ak3, .slice aq4 m.outs.length ak4, .int .i64 m.count], m) List.mem_cons_self).1.r.cell 2 _ rfl
      have ac3 := (S.out.box (X1, [.slice aq1 m.regs.length ak1, .int .i64 m.pc, .slice aq2 m.mem.length ak2, .int .i64 m.save, .bool m.lets, .bool m.waits, .int .i64 m.halt, .slice aq3 m.ins.length ak3, .slice aq4 m.outs.length ak4, .int .i64 m.count], m) List.mem_cons_self).1.r.cell 3 _ rfl
      have ac4 := (S.out.box (X1, [.slice aq1 m.regs.length ak1, .int .i64 m.pc, .slice aq2 m.mem.length ak2, .int .i64 m.save, .bool m.lets, .bool m.waits, .int .i64 m.halt, .slice aq3 m.ins.length ak3, .slice aq4 m.outs.length ak4, .int .i64 m.count], m) List.mem_cons_self).1.r.cell 4 _ rfl
      have ac5 := (S.out.box (X1, [.slice aq1 m.regs.length ak1, .int .i64 m.pc, .slice aq2 m.mem.length ak2, .int .i64 m.save, .bool m.lets, .bool m.waits, .int .i64 m.halt, .slice aq3 m.ins.length ak3, .slice aq4 m.outs.length ak4, .int .i64 m.count], m) List.mem_cons_self).1.r.cell 5 _ rfl
      have ac6 := (S.out.box (X1, [.slice aq1 m.regs.length ak1, .int .i64 m.pc, .slice aq2 m.mem.length ak2, .int .i64 m.save, .bool m.lets, .bool m.waits, .int .i64 m.halt, .slice aq3 m.ins.length ak3, .slice aq4 m.outs.length ak4, .int .i64 m.count], m) List.mem_cons_self).1.r.cell 6 _ rfl
      have ac7 := (S.out.box (X1, [.slice aq1 m.regs.length ak1, .int .i64 m.pc, .slice aq2 m.mem.length ak2, .int .i64 m.save, .bool m.lets, .bool m.waits, .int .i64 m.halt, .slice aq3 m.ins.length ak3, .slice aq4 m.outs.length ak4, .int .i64 m.count], m) List.mem_cons_self).1.r.cell 7 _ rfl
      have ac8 := (S.out.box (X1, [.slice aq1 m.regs.length ak1, .int .i64 m.pc, .slice aq2 m.mem.length ak2, .int .i64 m.save, .bool m.lets, .bool m.waits, .int .i64 m.halt, .slice aq3 m.ins.length ak3, .slice aq4 m.outs.length ak4, .int .i64 m.count], m) List.mem_cons_self).1.r.cell 8 _ rfl
      have ac9 := (S.out.box (X1, [.slice aq1 m.regs.length ak1, .int .i64 m.pc, .slice aq2 m.mem.length ak2, .int .i64 m.save, .bool m.lets, .bool m.waits, .int .i64 m.halt, .slice aq3 m.ins.length ak3, .slice aq4 m.outs.length ak4, .int .i64 m.count], m) List.mem_cons_self).1.r.cell 9 _ rfl
      go_wp2_with fail
      refine (La.laOk _).mono ?_
      rintro e u ⟨rfl, rfl⟩
      have FIN := hide S.out.bw
      clear S
      go_wp2
      go_ret
      exact ⟨rfl, FIN.out⟩
    have n1 : (m.count == 1000000) = false := beq_eq_false_iff_ne.2 h1
    obtain ⟨sm, es⟩ : ∃ sm, sampleM m irq = sm := ⟨_, rfl⟩
    have ES := hide es
    have STX : Hid (stepM sm false = x) := show _ = _ by rw [← es, ← step_irq EO.out h0 h1 irq]; exact EX.out
    have NS : Hid (Near sm) := by rw [← es]; exact near_sample FM.out.near irq
    clear es h0 h1
    have ac0 := (S.out.box (X1, [.slice aq1 m.regs.length ak1, .int .i64 m.pc, .slice aq2 m.mem.length ak2, .int .i64 m.save, .bool m.lets, .bool m.waits, .int .i64 m.halt, .slice aq3 m.ins.length ak3, .slice aq4 m.outs.length ak4, .int .i64 m.count], m) List.mem_cons_self).1.r.cell 0 _ rfl
    have ac1 := (S.out.box (X1, [.slice aq1 m.regs.length ak1, .int .i64 m.pc, .slice aq2 m.mem.length ak2, .int .i64 m.save, .bool m.lets, .bool m.waits, .int .i64 m.halt, .slice aq3 m.ins.length ak3, .slice aq4 m.outs.length ak4, .int .i64 m.count], m) List.mem_cons_self).1.r.cell 1 _ rfl
    have ac2 := (S.out.box (X1, [.slice aq1 m.regs.length ak1, .int .i64 m.pc, .slice aq2 m.mem.length ak2, .int .i64 m.save, .bool m.lets, .bool m.waits, .int .i64 m.halt, .slice aq3 m.ins.length ak3, .slice aq4 m.outs.length ak4, .int .i64 m.count], m) List.mem_cons_self).1.r.cell 2 _ rfl
    have ac3 := (S.out.box (X1, [.slice aq1 m.regs.length ak1, .int .i64 m.pc, .slice aq2 m.mem.length ak2, .int .i64 m.save, .bool m.lets, .bool m.waits, .int .i64 m.halt, .slice aq3 m.ins.length ak3, .slice aq4 m.outs.length ak4, .int .i64 m.count], m) List.mem_cons_self).1.r.cell 3 _ rfl
    have ac4 := (S.out.box (X1, [.slice aq1 m.regs.length ak1, .int .i64 m.pc, .slice aq2 m.mem.length ak2, .int .i64 m.save, .bool m.lets, .bool m.waits, .int .i64 m.halt, .slice aq3 m.ins.length ak3, .slice aq4 m.outs.length ak4, .int .i64 m.count], m) List.mem_cons_self).1.r.cell 4 _ rfl
    have ac5 := (S.out.box (X1, [.slice aq1 m.regs.length ak1, .int .i64 m.pc, .slice aq2 m.mem.length ak2, .int .i64 m.save, .bool m.lets, .bool m.waits, .int .i64 m.halt, .slice aq3 m.ins.length ak3, .slice aq4 m.outs.length ak4, .int .i64 m.count], m) List.mem_cons_self).1.r.cell 5 _ rfl
    have ac6 := (S.out.box (X1, [.slice aq1 m.regs.length ak1, .int .i64 m.pc, .slice aq2 m.mem.length ak2, .int .i64 m.save, .bool m.lets, .bool m.waits, .int .i64 m.halt, .slice aq3 m.ins.length ak3, .slice aq4 m.outs.length ak4, .int .i64 m.count], m) List.mem_cons_self).1.r.cell 6 _ rfl
    have ac7 := (S.out.box (X1, [.slice aq1 m.regs.length ak1, .int .i64 m.pc, .slice aq2 m.mem.length ak2, .int .i64 m.save, .bool m.lets, .bool m.waits, .int .i64 m.halt, .slice aq3 m.ins.length ak3, .slice aq4 m.outs.length ak4, .int .i64 m.count], m) List.mem_cons_self).1.r.cell 7 _ rfl
    have ac8 := (S.out.box (X1, [.slice aq1 m.regs.length ak1, .int .i64 m.pc, .slice aq2 m.mem.length ak2, .int .i64 m.save, .bool m.lets, .bool m.waits, .int .i64 m.halt, .slice aq3 m.ins.length ak3, .slice aq4 m.outs.length ak4, .int .i64 m.count], m) List.mem_cons_self).1.r.cell 8 _ rfl
    have ac9 := (S.out.box (X1, [.slice aq1 m.regs.length ak1, .int .i64 m.pc, .slice aq2 m.mem.length ak2, .int .i64 m.save, .bool m.lets, .bool m.waits, .int .i64 m.halt, .slice aq3 m.ins.length ak3, .slice aq4 m.outs.length ak4, .int .i64 m.count], m) List.mem_cons_self).1.r.cell 9 _ rfl
    go_wp2_with fail
    refine (MchI.mchStep m irq _ _ (S.out.box (X1, [.slice aq1 m.regs.length ak1, .int .i64 m.pc, .slice aq2 m.mem.length ak2, .int .i64 m.save, .bool m.lets, .bool m.waits, .int .i64 m.halt, .slice aq3 m.ins.length ak3, .slice aq4 m.outs.length ak4, .int .i64 m.count], m) List.mem_cons_self).2 FM.out.near.mid).mono ?_
    rintro e wv3 ⟨c2, rfl, M1, hb⟩
    have M2 := M1.read
    rw [EX.out] at M2
    clear M1
    have S2 := hide (S.out.below hb)
    clear S
    have S := S2
    clear S2
    clear hb
    clear ac0 ac1 ac2 ac3 ac4 ac5 ac6 ac7 ac8 ac9
    cases hw : m.waits <;> cases irq <;> cases hl : m.lets
    · skip
      obtain ⟨bq1, bq2, bq3, bq4, bk1, bk2, bk3, bk4, rfl⟩ := rforms M2
      have S2 := hide (Sit.add S.out M2)
      simp only [mv] at M2 S2 ⊢
      clear S M2
      have S := S2
      clear S2
      have ac0 := (S.out.box (X1, [.slice aq1 m.regs.length ak1, .int .i64 m.pc, .slice aq2 m.mem.length ak2, .int .i64 m.save, .bool m.lets, .bool m.waits, .int .i64 m.halt, .slice aq3 m.ins.length ak3, .slice aq4 m.outs.length ak4, .int .i64 m.count], m) (List.mem_cons_of_mem _ List.mem_cons_self)).1.r.cell 0 _ rfl
      have ac1 := (S.out.box (X1, [.slice aq1 m.regs.length ak1, .int .i64 m.pc, .slice aq2 m.mem.length ak2, .int .i64 m.save, .bool m.lets, .bool m.waits, .int .i64 m.halt, .slice aq3 m.ins.length ak3, .slice aq4 m.outs.length ak4, .int .i64 m.count], m) (List.mem_cons_of_mem _ List.mem_cons_self)).1.r.cell 1 _ rfl
      have ac2 := (S.out.box (X1, [.slice aq1 m.regs.length ak1, .int .i64 m.pc, .slice aq2 m.mem.length ak2, .int .i64 m.save, .bool m.lets, .bool m.waits, .int .i64 m.halt, .slice aq3 m.ins.length ak3, .slice aq4 m.outs.length ak4, .int .i64 m.count], m) (List.mem_cons_of_mem _ List.mem_cons_self)).1.r.cell 2 _ rfl
      have ac3 := (S.out.box (X1, [.slice aq1 m.regs.length ak1, .int .i64 m.pc, .slice aq2 m.mem.length ak2, .int .i64 m.save, .bool m.lets, .bool m.waits, .int .i64 m.halt, .slice aq3 m.ins.length ak3, .slice aq4 m.outs.length ak4, .int .i64 m.count], m) (List.mem_cons_of_mem _ List.mem_cons_self)).1.r.cell 3 _ rfl
      have ac4 := (S.out.box (X1, [.slice aq1 m.regs.length ak1, .int .i64 m.pc, .slice aq2 m.mem.length ak2, .int .i64 m.save, .bool m.lets, .bool m.waits, .int .i64 m.halt, .slice aq3 m.ins.length ak3, .slice aq4 m.outs.length ak4, .int .i64 m.count], m) (List.mem_cons_of_mem _ List.mem_cons_self)).1.r.cell 4 _ rfl
      have ac5 := (S.out.box (X1, [.slice aq1 m.regs.length ak1, .int .i64 m.pc, .slice aq2 m.mem.length ak2, .int .i64 m.save, .bool m.lets, .bool m.waits, .int .i64 m.halt, .slice aq3 m.ins.length ak3, .slice aq4 m.outs.length ak4, .int .i64 m.count], m) (List.mem_cons_of_mem _ List.mem_cons_self)).1.r.cell 5 _ rfl
      have ac6 := (S.out.box (X1, [.slice aq1 m.regs.length ak1, .int .i64 m.pc, .slice aq2 m.mem.length ak2, .int .i64 m.save, .bool m.lets, .bool m.waits, .int .i64 m.halt, .slice aq3 m.ins.length ak3, .slice aq4 m.outs.length ak4, .int .i64 m.count], m) (List.mem_cons_of_mem _ List.mem_cons_self)).1.r.cell 6 _ rfl
      have ac7 := (S.out.box (X1, [.slice aq1 m.regs.length ak1, .int .i64 m.pc, .slice aq2 m.mem.length ak2, .int .i64 m.save, .bool m.lets, .bool m.waits, .int .i64 m.halt, .slice aq3 m.ins.length ak3, .slice aq4 m.outs.length ak4, .int .i64 m.count], m) (List.mem_cons_of_mem _ List.mem_cons_self)).1.r.cell 7 _ rfl
      have ac8 := (S.out.box (X1, [.slice aq1 m.regs.length ak1, .int .i64 m.pc, .slice aq2 m.mem.length ak2, .int .i64 m.save, .bool m.lets, .bool m.waits, .int .i64 m.halt, .slice aq3 m.ins.length ak3, .slice aq4 m.outs.length ak4, .int .i64 m.count], m) (List.mem_cons_of_mem _ List.mem_cons_self)).1.r.cell 8 _ rfl
      have ac9 := (S.out.box (X1, [.slice aq1 m.regs.length ak1, .int .i64 m.pc, .slice aq2 m.mem.length ak2, .int .i64 m.save, .bool m.lets, .bool m.waits, .int .i64 m.halt, .slice aq3 m.ins.length ak3, .slice aq4 m.outs.length ak4, .int .i64 m.count], m) (List.mem_cons_of_mem _ List.mem_cons_self)).1.r.cell 9 _ rfl
      have ma1 := fun ob => ((S.out.box (X1, [.slice aq1 m.regs.length ak1, .int .i64 m.pc, .slice aq2 m.mem.length ak2, .int .i64 m.save, .bool m.lets, .bool m.waits, .int .i64 m.halt, .slice aq3 m.ins.length ak3, .slice aq4 m.outs.length ak4, .int .i64 m.count], m) (List.mem_cons_of_mem _ List.mem_cons_self)).1.r.alloc ob).cell 1 _ rfl
      have ma4 := fun ob => ((S.out.box (X1, [.slice aq1 m.regs.length ak1, .int .i64 m.pc, .slice aq2 m.mem.length ak2, .int .i64 m.save, .bool m.lets, .bool m.waits, .int .i64 m.halt, .slice aq3 m.ins.length ak3, .slice aq4 m.outs.length ak4, .int .i64 m.count], m) (List.mem_cons_of_mem _ List.mem_cons_self)).1.r.alloc ob).cell 4 _ rfl
      have ma5 := fun ob => ((S.out.box (X1, [.slice aq1 m.regs.length ak1, .int .i64 m.pc, .slice aq2 m.mem.length ak2, .int .i64 m.save, .bool m.lets, .bool m.waits, .int .i64 m.halt, .slice aq3 m.ins.length ak3, .slice aq4 m.outs.length ak4, .int .i64 m.count], m) (List.mem_cons_of_mem _ List.mem_cons_self)).1.r.alloc ob).cell 5 _ rfl
      go_wp2_with fail
      clear ma1 ma4 ma5
      clear ac0 ac1 ac2 ac3 ac4 ac5 ac6 ac7 ac8 ac9
      have hsz : (wv3.alloc (.cells #[.slice bq1 x.regs.length bk1, .int .i64 x.pc, .slice bq2 x.mem.length bk2, .int .i64 x.save, .bool x.lets, .bool x.waits, .int .i64 x.halt, .slice bq3 x.ins.length bk3, .slice bq4 x.outs.length bk4, .int .i64 x.count] 25)).heap.size = wv3.heap.size + 1 := by simp
      generalize hZ : wv3.heap.size = X2 at S hsz ⊢
      clear hZ
      generalize wv3.alloc (.cells #[.slice bq1 x.regs.length bk1, .int .i64 x.pc, .slice bq2 x.mem.length bk2, .int .i64 x.save, .bool x.lets, .bool x.waits, .int .i64 x.halt, .slice bq3 x.ins.length bk3, .slice bq4 x.outs.length bk4, .int .i64 x.count] 25) = wv4 at S hsz ⊢
      have RY := RMach.plain (m := m) (r := .slice aq1 m.regs.length ak1) (e := .slice aq2 m.mem.length ak2) (i := .slice aq3 m.ins.length ak3) (o := .slice aq4 m.outs.length ak4) (S.out.box (X1, [.slice aq1 m.regs.length ak1, .int .i64 m.pc, .slice aq2 m.mem.length ak2, .int .i64 m.save, .bool m.lets, .bool m.waits, .int .i64 m.halt, .slice aq3 m.ins.length ak3, .slice aq4 m.outs.length ak4, .int .i64 m.count], m) (List.mem_cons_of_mem _ List.mem_cons_self)).2 m.pc m.save m.halt m.count false false
      have eS : sampleM m false = ⟨m.regs, m.pc, m.mem, m.save, false, false, m.halt, m.ins, m.outs, m.count⟩ := by
        unfold sampleM
        rw [hw, hl]
        rfl
      simp only [mv] at RY
      rw [← eS, ES.out] at RY
      have RY2 : RMach wv4 [.slice aq1 m.regs.length ak1, .int .i64 m.pc, .slice aq2 m.mem.length ak2, .int .i64 m.save, .bool false, .bool false, .int .i64 m.halt, .slice aq3 m.ins.length ak3, .slice aq4 m.outs.length ak4, .int .i64 m.count] sm := RY
      have S2 := hide (Sit.add S.out RY2)
      rw [hsz] at S2
      clear S RY RY2 eS hsz hw hl
      have S := S2
      clear S2
      generalize wv4.alloc (.cells #[.slice aq1 m.regs.length ak1, .int .i64 m.pc, .slice aq2 m.mem.length ak2, .int .i64 m.save, .bool false, .bool false, .int .i64 m.halt, .slice aq3 m.ins.length ak3, .slice aq4 m.outs.length ak4, .int .i64 m.count] 25) = yw at S ⊢
      refine (MchI.mchStep sm false _ _ (S.out.box ((X2 + 1), [.slice aq1 m.regs.length ak1, .int .i64 m.pc, .slice aq2 m.mem.length ak2, .int .i64 m.save, .bool false, .bool false, .int .i64 m.halt, .slice aq3 m.ins.length ak3, .slice aq4 m.outs.length ak4, .int .i64 m.count], sm) List.mem_cons_self).2 NS.out.mid).mono ?_
      rintro e wv5 ⟨c3, rfl, M3, hb⟩
      have M4 := M3.read
      rw [STX.out] at M4
      clear M3
      have S2 := hide (S.out.below hb)
      clear S
      have S := S2
      clear S2
      clear hb
      obtain ⟨dq1, dq2, dq3, dq4, dk1, dk2, dk3, dk4, rfl⟩ := rforms M4
      have S2 := hide (Sit.add S.out M4)
      simp only [mv] at M4 S2 ⊢
      clear S M4
      have S := S2
      clear S2
      have bc0 := (S.out.box (X2, [.slice bq1 x.regs.length bk1, .int .i64 x.pc, .slice bq2 x.mem.length bk2, .int .i64 x.save, .bool x.lets, .bool x.waits, .int .i64 x.halt, .slice bq3 x.ins.length bk3, .slice bq4 x.outs.length bk4, .int .i64 x.count], x) (List.mem_cons_of_mem _ (List.mem_cons_of_mem _ List.mem_cons_self))).1.r.cell 0 _ rfl
      have bc1 := (S.out.box (X2, [.slice bq1 x.regs.length bk1, .int .i64 x.pc, .slice bq2 x.mem.length bk2, .int .i64 x.save, .bool x.lets, .bool x.waits, .int .i64 x.halt, .slice bq3 x.ins.length bk3, .slice bq4 x.outs.length bk4, .int .i64 x.count], x) (List.mem_cons_of_mem _ (List.mem_cons_of_mem _ List.mem_cons_self))).1.r.cell 1 _ rfl
      have bc2 := (S.out.box (X2, [.slice bq1 x.regs.length bk1, .int .i64 x.pc, .slice bq2 x.mem.length bk2, .int .i64 x.save, .bool x.lets, .bool x.waits, .int .i64 x.halt, .slice bq3 x.ins.length bk3, .slice bq4 x.outs.length bk4, .int .i64 x.count], x) (List.mem_cons_of_mem _ (List.mem_cons_of_mem _ List.mem_cons_self))).1.r.cell 2 _ rfl
      have bc3 := (S.out.box (X2, [.slice bq1 x.regs.length bk1, .int .i64 x.pc, .slice bq2 x.mem.length bk2, .int .i64 x.save, .bool x.lets, .bool x.waits, .int .i64 x.halt, .slice bq3 x.ins.length bk3, .slice bq4 x.outs.length bk4, .int .i64 x.count], x) (List.mem_cons_of_mem _ (List.mem_cons_of_mem _ List.mem_cons_self))).1.r.cell 3 _ rfl
      have bc4 := (S.out.box (X2, [.slice bq1 x.regs.length bk1, .int .i64 x.pc, .slice bq2 x.mem.length bk2, .int .i64 x.save, .bool x.lets, .bool x.waits, .int .i64 x.halt, .slice bq3 x.ins.length bk3, .slice bq4 x.outs.length bk4, .int .i64 x.count], x) (List.mem_cons_of_mem _ (List.mem_cons_of_mem _ List.mem_cons_self))).1.r.cell 4 _ rfl
      have bc5 := (S.out.box (X2, [.slice bq1 x.regs.length bk1, .int .i64 x.pc, .slice bq2 x.mem.length bk2, .int .i64 x.save, .bool x.lets, .bool x.waits, .int .i64 x.halt, .slice bq3 x.ins.length bk3, .slice bq4 x.outs.length bk4, .int .i64 x.count], x) (List.mem_cons_of_mem _ (List.mem_cons_of_mem _ List.mem_cons_self))).1.r.cell 5 _ rfl
      have bc6 := (S.out.box (X2, [.slice bq1 x.regs.length bk1, .int .i64 x.pc, .slice bq2 x.mem.length bk2, .int .i64 x.save, .bool x.lets, .bool x.waits, .int .i64 x.halt, .slice bq3 x.ins.length bk3, .slice bq4 x.outs.length bk4, .int .i64 x.count], x) (List.mem_cons_of_mem _ (List.mem_cons_of_mem _ List.mem_cons_self))).1.r.cell 6 _ rfl
      have bc7 := (S.out.box (X2, [.slice bq1 x.regs.length bk1, .int .i64 x.pc, .slice bq2 x.mem.length bk2, .int .i64 x.save, .bool x.lets, .bool x.waits, .int .i64 x.halt, .slice bq3 x.ins.length bk3, .slice bq4 x.outs.length bk4, .int .i64 x.count], x) (List.mem_cons_of_mem _ (List.mem_cons_of_mem _ List.mem_cons_self))).1.r.cell 7 _ rfl
      have bc8 := (S.out.box (X2, [.slice bq1 x.regs.length bk1, .int .i64 x.pc, .slice bq2 x.mem.length bk2, .int .i64 x.save, .bool x.lets, .bool x.waits, .int .i64 x.halt, .slice bq3 x.ins.length bk3, .slice bq4 x.outs.length bk4, .int .i64 x.count], x) (List.mem_cons_of_mem _ (List.mem_cons_of_mem _ List.mem_cons_self))).1.r.cell 8 _ rfl
      have bc9 := (S.out.box (X2, [.slice bq1 x.regs.length bk1, .int .i64 x.pc, .slice bq2 x.mem.length bk2, .int .i64 x.save, .bool x.lets, .bool x.waits, .int .i64 x.halt, .slice bq3 x.ins.length bk3, .slice bq4 x.outs.length bk4, .int .i64 x.count], x) (List.mem_cons_of_mem _ (List.mem_cons_of_mem _ List.mem_cons_self))).1.r.cell 9 _ rfl
      go_wp2_with fail
      clear bc0 bc1 bc2 bc3 bc4 bc5 bc6 bc7 bc8 bc9
      generalize hZ : wv5.heap.size = X4 at S ⊢
      clear hZ
      generalize wv5.alloc (.cells #[.slice dq1 x.regs.length dk1, .int .i64 x.pc, .slice dq2 x.mem.length dk2, .int .i64 x.save, .bool x.lets, .bool x.waits, .int .i64 x.halt, .slice dq3 x.ins.length dk3, .slice dq4 x.outs.length dk4, .int .i64 x.count] 25) = wv6 at S ⊢
      refine (La.laMach x _ _ _ (S.out.box (X2, [.slice bq1 x.regs.length bk1, .int .i64 x.pc, .slice bq2 x.mem.length bk2, .int .i64 x.save, .bool x.lets, .bool x.waits, .int .i64 x.halt, .slice bq3 x.ins.length bk3, .slice bq4 x.outs.length bk4, .int .i64 x.count], x) (List.mem_cons_of_mem _ (List.mem_cons_of_mem _ List.mem_cons_self))).2 (S.out.box (X4, [.slice dq1 x.regs.length dk1, .int .i64 x.pc, .slice dq2 x.mem.length dk2, .int .i64 x.save, .bool x.lets, .bool x.waits, .int .i64 x.halt, .slice dq3 x.ins.length dk3, .slice dq4 x.outs.length dk4, .int .i64 x.count], x) List.mem_cons_self).2).mono ?_
      rintro e uu ⟨rfl, hb⟩
      have S2 := hide (S.out.below hb)
      clear S hb
      have S := S2
      clear S2
      have FIN := hide S.out.bw
      clear S
      go_wp2
      go_ret
      exact ⟨rfl, FIN.out⟩
    · skip
      obtain ⟨bq1, bq2, bq3, bq4, bk1, bk2, bk3, bk4, rfl⟩ := rforms M2
      have S2 := hide (Sit.add S.out M2)
      simp only [mv] at M2 S2 ⊢
      clear S M2
      have S := S2
      clear S2
      have ac0 := (S.out.box (X1, [.slice aq1 m.regs.length ak1, .int .i64 m.pc, .slice aq2 m.mem.length ak2, .int .i64 m.save, .bool m.lets, .bool m.waits, .int .i64 m.halt, .slice aq3 m.ins.length ak3, .slice aq4 m.outs.length ak4, .int .i64 m.count], m) (List.mem_cons_of_mem _ List.mem_cons_self)).1.r.cell 0 _ rfl
      have ac1 := (S.out.box (X1, [.slice aq1 m.regs.length ak1, .int .i64 m.pc, .slice aq2 m.mem.length ak2, .int .i64 m.save, .bool m.lets, .bool m.waits, .int .i64 m.halt, .slice aq3 m.ins.length ak3, .slice aq4 m.outs.length ak4, .int .i64 m.count], m) (List.mem_cons_of_mem _ List.mem_cons_self)).1.r.cell 1 _ rfl
      have ac2 := (S.out.box (X1, [.slice aq1 m.regs.length ak1, .int .i64 m.pc, .slice aq2 m.mem.length ak2, .int .i64 m.save, .bool m.lets, .bool m.waits, .int .i64 m.halt, .slice aq3 m.ins.length ak3, .slice aq4 m.outs.length ak4, .int .i64 m.count], m) (List.mem_cons_of_mem _ List.mem_cons_self)).1.r.cell 2 _ rfl
      have ac3 := (S.out.box (X1, [.slice aq1 m.regs.length ak1, .int .i64 m.pc, .slice aq2 m.mem.length ak2, .int .i64 m.save, .bool m.lets, .bool m.waits, .int .i64 m.halt, .slice aq3 m.ins.length ak3, .slice aq4 m.outs.length ak4, .int .i64 m.count], m) (List.mem_cons_of_mem _ List.mem_cons_self)).1.r.cell 3 _ rfl
      have ac4 := (S.out.box (X1, [.slice aq1 m.regs.length ak1, .int .i64 m.pc, .slice aq2 m.mem.length ak2, .int .i64 m.save, .bool m.lets, .bool m.waits, .int .i64 m.halt, .slice aq3 m.ins.length ak3, .slice aq4 m.outs.length ak4, .int .i64 m.count], m) (List.mem_cons_of_mem _ List.mem_cons_self)).1.r.cell 4 _ rfl
      have ac5 := (S.out.box (X1, [.slice aq1 m.regs.length ak1, .int .i64 m.pc, .slice aq2 m.mem.length ak2, .int .i64 m.save, .bool m.lets, .bool m.waits, .int .i64 m.halt, .slice aq3 m.ins.length ak3, .slice aq4 m.outs.length ak4, .int .i64 m.count], m) (List.mem_cons_of_mem _ List.mem_cons_self)).1.r.cell 5 _ rfl
      have ac6 := (S.out.box (X1, [.slice aq1 m.regs.length ak1, .int .i64 m.pc, .slice aq2 m.mem.length ak2, .int .i64 m.save, .bool m.lets, .bool m.waits, .int .i64 m.halt, .slice aq3 m.ins.length ak3, .slice aq4 m.outs.length ak4, .int .i64 m.count], m) (List.mem_cons_of_mem _ List.mem_cons_self)).1.r.cell 6 _ rfl
      have ac7 := (S.out.box (X1, [.slice aq1 m.regs.length ak1, .int .i64 m.pc, .slice aq2 m.mem.length ak2, .int .i64 m.save, .bool m.lets, .bool m.waits, .int .i64 m.halt, .slice aq3 m.ins.length ak3, .slice aq4 m.outs.length ak4, .int .i64 m.count], m) (List.mem_cons_of_mem _ List.mem_cons_self)).1.r.cell 7 _ rfl
      have ac8 := (S.out.box (X1, [.slice aq1 m.regs.length ak1, .int .i64 m.pc, .slice aq2 m.mem.length ak2, .int .i64 m.save, .bool m.lets, .bool m.waits, .int .i64 m.halt, .slice aq3 m.ins.length ak3, .slice aq4 m.outs.length ak4, .int .i64 m.count], m) (List.mem_cons_of_mem _ List.mem_cons_self)).1.r.cell 8 _ rfl
      have ac9 := (S.out.box (X1, [.slice aq1 m.regs.length ak1, .int .i64 m.pc, .slice aq2 m.mem.length ak2, .int .i64 m.save, .bool m.lets, .bool m.waits, .int .i64 m.halt, .slice aq3 m.ins.length ak3, .slice aq4 m.outs.length ak4, .int .i64 m.count], m) (List.mem_cons_of_mem _ List.mem_cons_self)).1.r.cell 9 _ rfl
      have ma1 := fun ob => ((S.out.box (X1, [.slice aq1 m.regs.length ak1, .int .i64 m.pc, .slice aq2 m.mem.length ak2, .int .i64 m.save, .bool m.lets, .bool m.waits, .int .i64 m.halt, .slice aq3 m.ins.length ak3, .slice aq4 m.outs.length ak4, .int .i64 m.count], m) (List.mem_cons_of_mem _ List.mem_cons_self)).1.r.alloc ob).cell 1 _ rfl
      have ma4 := fun ob => ((S.out.box (X1, [.slice aq1 m.regs.length ak1, .int .i64 m.pc, .slice aq2 m.mem.length ak2, .int .i64 m.save, .bool m.lets, .bool m.waits, .int .i64 m.halt, .slice aq3 m.ins.length ak3, .slice aq4 m.outs.length ak4, .int .i64 m.count], m) (List.mem_cons_of_mem _ List.mem_cons_self)).1.r.alloc ob).cell 4 _ rfl
      have ma5 := fun ob => ((S.out.box (X1, [.slice aq1 m.regs.length ak1, .int .i64 m.pc, .slice aq2 m.mem.length ak2, .int .i64 m.save, .bool m.lets, .bool m.waits, .int .i64 m.halt, .slice aq3 m.ins.length ak3, .slice aq4 m.outs.length ak4, .int .i64 m.count], m) (List.mem_cons_of_mem _ List.mem_cons_self)).1.r.alloc ob).cell 5 _ rfl
      go_wp2_with fail
      clear ma1 ma4 ma5
      clear ac0 ac1 ac2 ac3 ac4 ac5 ac6 ac7 ac8 ac9
      have hsz : (wv3.alloc (.cells #[.slice bq1 x.regs.length bk1, .int .i64 x.pc, .slice bq2 x.mem.length bk2, .int .i64 x.save, .bool x.lets, .bool x.waits, .int .i64 x.halt, .slice bq3 x.ins.length bk3, .slice bq4 x.outs.length bk4, .int .i64 x.count] 25)).heap.size = wv3.heap.size + 1 := by simp
      generalize hZ : wv3.heap.size = X2 at S hsz ⊢
      clear hZ
      generalize wv3.alloc (.cells #[.slice bq1 x.regs.length bk1, .int .i64 x.pc, .slice bq2 x.mem.length bk2, .int .i64 x.save, .bool x.lets, .bool x.waits, .int .i64 x.halt, .slice bq3 x.ins.length bk3, .slice bq4 x.outs.length bk4, .int .i64 x.count] 25) = wv4 at S hsz ⊢
      have RY := RMach.plain (m := m) (r := .slice aq1 m.regs.length ak1) (e := .slice aq2 m.mem.length ak2) (i := .slice aq3 m.ins.length ak3) (o := .slice aq4 m.outs.length ak4) (S.out.box (X1, [.slice aq1 m.regs.length ak1, .int .i64 m.pc, .slice aq2 m.mem.length ak2, .int .i64 m.save, .bool m.lets, .bool m.waits, .int .i64 m.halt, .slice aq3 m.ins.length ak3, .slice aq4 m.outs.length ak4, .int .i64 m.count], m) (List.mem_cons_of_mem _ List.mem_cons_self)).2 m.pc m.save m.halt m.count true false
      have eS : sampleM m false = ⟨m.regs, m.pc, m.mem, m.save, true, false, m.halt, m.ins, m.outs, m.count⟩ := by
        unfold sampleM
        rw [hw, hl]
        rfl
      simp only [mv] at RY
      rw [← eS, ES.out] at RY
      have RY2 : RMach wv4 [.slice aq1 m.regs.length ak1, .int .i64 m.pc, .slice aq2 m.mem.length ak2, .int .i64 m.save, .bool true, .bool false, .int .i64 m.halt, .slice aq3 m.ins.length ak3, .slice aq4 m.outs.length ak4, .int .i64 m.count] sm := RY
      have S2 := hide (Sit.add S.out RY2)
      rw [hsz] at S2
      clear S RY RY2 eS hsz hw hl
      have S := S2
      clear S2
      generalize wv4.alloc (.cells #[.slice aq1 m.regs.length ak1, .int .i64 m.pc, .slice aq2 m.mem.length ak2, .int .i64 m.save, .bool true, .bool false, .int .i64 m.halt, .slice aq3 m.ins.length ak3, .slice aq4 m.outs.length ak4, .int .i64 m.count] 25) = yw at S ⊢
      refine (MchI.mchStep sm false _ _ (S.out.box ((X2 + 1), [.slice aq1 m.regs.length ak1, .int .i64 m.pc, .slice aq2 m.mem.length ak2, .int .i64 m.save, .bool true, .bool false, .int .i64 m.halt, .slice aq3 m.ins.length ak3, .slice aq4 m.outs.length ak4, .int .i64 m.count], sm) List.mem_cons_self).2 NS.out.mid).mono ?_
      rintro e wv5 ⟨c3, rfl, M3, hb⟩
      have M4 := M3.read
      rw [STX.out] at M4
      clear M3
      have S2 := hide (S.out.below hb)
      clear S
      have S := S2
      clear S2
      clear hb
      obtain ⟨dq1, dq2, dq3, dq4, dk1, dk2, dk3, dk4, rfl⟩ := rforms M4
      have S2 := hide (Sit.add S.out M4)
      simp only [mv] at M4 S2 ⊢
      clear S M4
      have S := S2
      clear S2
      have bc0 := (S.out.box (X2, [.slice bq1 x.regs.length bk1, .int .i64 x.pc, .slice bq2 x.mem.length bk2, .int .i64 x.save, .bool x.lets, .bool x.waits, .int .i64 x.halt, .slice bq3 x.ins.length bk3, .slice bq4 x.outs.length bk4, .int .i64 x.count], x) (List.mem_cons_of_mem _ (List.mem_cons_of_mem _ List.mem_cons_self))).1.r.cell 0 _ rfl
      have bc1 := (S.out.box (X2, [.slice bq1 x.regs.length bk1, .int .i64 x.pc, .slice bq2 x.mem.length bk2, .int .i64 x.save, .bool x.lets, .bool x.waits, .int .i64 x.halt, .slice bq3 x.ins.length bk3, .slice bq4 x.outs.length bk4, .int .i64 x.count], x) (List.mem_cons_of_mem _ (List.mem_cons_of_mem _ List.mem_cons_self))).1.r.cell 1 _ rfl
      have bc2 := (S.out.box (X2, [.slice bq1 x.regs.length bk1, .int .i64 x.pc, .slice bq2 x.mem.length bk2, .int .i64 x.save, .bool x.lets, .bool x.waits, .int .i64 x.halt, .slice bq3 x.ins.length bk3, .slice bq4 x.outs.length bk4, .int .i64 x.count], x) (List.mem_cons_of_mem _ (List.mem_cons_of_mem _ List.mem_cons_self))).1.r.cell 2 _ rfl
      have bc3 := (S.out.box (X2, [.slice bq1 x.regs.length bk1, .int .i64 x.pc, .slice bq2 x.mem.length bk2, .int .i64 x.save, .bool x.lets, .bool x.waits, .int .i64 x.halt, .slice bq3 x.ins.length bk3, .slice bq4 x.outs.length bk4, .int .i64 x.count], x) (List.mem_cons_of_mem _ (List.mem_cons_of_mem _ List.mem_cons_self))).1.r.cell 3 _ rfl
      have bc4 := (S.out.box (X2, [.slice bq1 x.regs.length bk1, .int .i64 x.pc, .slice bq2 x.mem.length bk2, .int .i64 x.save, .bool x.lets, .bool x.waits, .int .i64 x.halt, .slice bq3 x.ins.length bk3, .slice bq4 x.outs.length bk4, .int .i64 x.count], x) (List.mem_cons_of_mem _ (List.mem_cons_of_mem _ List.mem_cons_self))).1.r.cell 4 _ rfl
      have bc5 := (S.out.box (X2, [.slice bq1 x.regs.length bk1, .int .i64 x.pc, .slice bq2 x.mem.length bk2, .int .i64 x.save, .bool x.lets, .bool x.waits, .int .i64 x.halt, .slice bq3 x.ins.length bk3, .slice bq4 x.outs.length bk4, .int .i64 x.count], x) (List.mem_cons_of_mem _ (List.mem_cons_of_mem _ List.mem_cons_self))).1.r.cell 5 _ rfl
      have bc6 := (S.out.box (X2, [.slice bq1 x.regs.length bk1, .int .i64 x.pc, .slice bq2 x.mem.length bk2, .int .i64 x.save, .bool x.lets, .bool x.waits, .int .i64 x.halt, .slice bq3 x.ins.length bk3, .slice bq4 x.outs.length bk4, .int .i64 x.count], x) (List.mem_cons_of_mem _ (List.mem_cons_of_mem _ List.mem_cons_self))).1.r.cell 6 _ rfl
      have bc7 := (S.out.box (X2, [.slice bq1 x.regs.length bk1, .int .i64 x.pc, .slice bq2 x.mem.length bk2, .int .i64 x.save, .bool x.lets, .bool x.waits, .int .i64 x.halt, .slice bq3 x.ins.length bk3, .slice bq4 x.outs.length bk4, .int .i64 x.count], x) (List.mem_cons_of_mem _ (List.mem_cons_of_mem _ List.mem_cons_self))).1.r.cell 7 _ rfl
      have bc8 := (S.out.box (X2, [.slice bq1 x.regs.length bk1, .int .i64 x.pc, .slice bq2 x.mem.length bk2, .int .i64 x.save, .bool x.lets, .bool x.waits, .int .i64 x.halt, .slice bq3 x.ins.length bk3, .slice bq4 x.outs.length bk4, .int .i64 x.count], x) (List.mem_cons_of_mem _ (List.mem_cons_of_mem _ List.mem_cons_self))).1.r.cell 8 _ rfl
      have bc9 := (S.out.box (X2, [.slice bq1 x.regs.length bk1, .int .i64 x.pc, .slice bq2 x.mem.length bk2, .int .i64 x.save, .bool x.lets, .bool x.waits, .int .i64 x.halt, .slice bq3 x.ins.length bk3, .slice bq4 x.outs.length bk4, .int .i64 x.count], x) (List.mem_cons_of_mem _ (List.mem_cons_of_mem _ List.mem_cons_self))).1.r.cell 9 _ rfl
      go_wp2_with fail
      clear bc0 bc1 bc2 bc3 bc4 bc5 bc6 bc7 bc8 bc9
      generalize hZ : wv5.heap.size = X4 at S ⊢
      clear hZ
      generalize wv5.alloc (.cells #[.slice dq1 x.regs.length dk1, .int .i64 x.pc, .slice dq2 x.mem.length dk2, .int .i64 x.save, .bool x.lets, .bool x.waits, .int .i64 x.halt, .slice dq3 x.ins.length dk3, .slice dq4 x.outs.length dk4, .int .i64 x.count] 25) = wv6 at S ⊢
      refine (La.laMach x _ _ _ (S.out.box (X2, [.slice bq1 x.regs.length bk1, .int .i64 x.pc, .slice bq2 x.mem.length bk2, .int .i64 x.save, .bool x.lets, .bool x.waits, .int .i64 x.halt, .slice bq3 x.ins.length bk3, .slice bq4 x.outs.length bk4, .int .i64 x.count], x) (List.mem_cons_of_mem _ (List.mem_cons_of_mem _ List.mem_cons_self))).2 (S.out.box (X4, [.slice dq1 x.regs.length dk1, .int .i64 x.pc, .slice dq2 x.mem.length dk2, .int .i64 x.save, .bool x.lets, .bool x.waits, .int .i64 x.halt, .slice dq3 x.ins.length dk3, .slice dq4 x.outs.length dk4, .int .i64 x.count], x) List.mem_cons_self).2).mono ?_
      rintro e uu ⟨rfl, hb⟩
      have S2 := hide (S.out.below hb)
      clear S hb
      have S := S2
      clear S2
      have FIN := hide S.out.bw
      clear S
      go_wp2
      go_ret
      exact ⟨rfl, FIN.out⟩
    · skip
      obtain ⟨bq1, bq2, bq3, bq4, bk1, bk2, bk3, bk4, rfl⟩ := rforms M2
      have S2 := hide (Sit.add S.out M2)
      simp only [mv] at M2 S2 ⊢
      clear S M2
      have S := S2
      clear S2
      have ac0 := (S.out.box (X1, [.slice aq1 m.regs.length ak1, .int .i64 m.pc, .slice aq2 m.mem.length ak2, .int .i64 m.save, .bool m.lets, .bool m.waits, .int .i64 m.halt, .slice aq3 m.ins.length ak3, .slice aq4 m.outs.length ak4, .int .i64 m.count], m) (List.mem_cons_of_mem _ List.mem_cons_self)).1.r.cell 0 _ rfl
      have ac1 := (S.out.box (X1, [.slice aq1 m.regs.length ak1, .int .i64 m.pc, .slice aq2 m.mem.length ak2, .int .i64 m.save, .bool m.lets, .bool m.waits, .int .i64 m.halt, .slice aq3 m.ins.length ak3, .slice aq4 m.outs.length ak4, .int .i64 m.count], m) (List.mem_cons_of_mem _ List.mem_cons_self)).1.r.cell 1 _ rfl
      have ac2 := (S.out.box (X1, [.slice aq1 m.regs.length ak1, .int .i64 m.pc, .slice aq2 m.mem.length ak2, .int .i64 m.save, .bool m.lets, .bool m.waits, .int .i64 m.halt, .slice aq3 m.ins.length ak3, .slice aq4 m.outs.length ak4, .int .i64 m.count], m) (List.mem_cons_of_mem _ List.mem_cons_self)).1.r.cell 2 _ rfl
      have ac3 := (S.out.box (X1, [.slice aq1 m.regs.length ak1, .int .i64 m.pc, .slice aq2 m.mem.length ak2, .int .i64 m.save, .bool m.lets, .bool m.waits, .int .i64 m.halt, .slice aq3 m.ins.length ak3, .slice aq4 m.outs.length ak4, .int .i64 m.count], m) (List.mem_cons_of_mem _ List.mem_cons_self)).1.r.cell 3 _ rfl
      have ac4 := (S.out.box (X1, [.slice aq1 m.regs.length ak1, .int .i64 m.pc, .slice aq2 m.mem.length ak2, .int .i64 m.save, .bool m.lets, .bool m.waits, .int .i64 m.halt, .slice aq3 m.ins.length ak3, .slice aq4 m.outs.length ak4, .int .i64 m.count], m) (List.mem_cons_of_mem _ List.mem_cons_self)).1.r.cell 4 _ rfl
      have ac5 := (S.out.box (X1, [.slice aq1 m.regs.length ak1, .int .i64 m.pc, .slice aq2 m.mem.length ak2, .int .i64 m.save, .bool m.lets, .bool m.waits, .int .i64 m.halt, .slice aq3 m.ins.length ak3, .slice aq4 m.outs.length ak4, .int .i64 m.count], m) (List.mem_cons_of_mem _ List.mem_cons_self)).1.r.cell 5 _ rfl
      have ac6 := (S.out.box (X1, [.slice aq1 m.regs.length ak1, .int .i64 m.pc, .slice aq2 m.mem.length ak2, .int .i64 m.save, .bool m.lets, .bool m.waits, .int .i64 m.halt, .slice aq3 m.ins.length ak3, .slice aq4 m.outs.length ak4, .int .i64 m.count], m) (List.mem_cons_of_mem _ List.mem_cons_self)).1.r.cell 6 _ rfl
      have ac7 := (S.out.box (X1, [.slice aq1 m.regs.length ak1, .int .i64 m.pc, .slice aq2 m.mem.length ak2, .int .i64 m.save, .bool m.lets, .bool m.waits, .int .i64 m.halt, .slice aq3 m.ins.length ak3, .slice aq4 m.outs.length ak4, .int .i64 m.count], m) (List.mem_cons_of_mem _ List.mem_cons_self)).1.r.cell 7 _ rfl
      have ac8 := (S.out.box (X1, [.slice aq1 m.regs.length ak1, .int .i64 m.pc, .slice aq2 m.mem.length ak2, .int .i64 m.save, .bool m.lets, .bool m.waits, .int .i64 m.halt, .slice aq3 m.ins.length ak3, .slice aq4 m.outs.length ak4, .int .i64 m.count], m) (List.mem_cons_of_mem _ List.mem_cons_self)).1.r.cell 8 _ rfl
      have ac9 := (S.out.box (X1, [.slice aq1 m.regs.length ak1, .int .i64 m.pc, .slice aq2 m.mem.length ak2, .int .i64 m.save, .bool m.lets, .bool m.waits, .int .i64 m.halt, .slice aq3 m.ins.length ak3, .slice aq4 m.outs.length ak4, .int .i64 m.count], m) (List.mem_cons_of_mem _ List.mem_cons_self)).1.r.cell 9 _ rfl
      have ma1 := fun ob => ((S.out.box (X1, [.slice aq1 m.regs.length ak1, .int .i64 m.pc, .slice aq2 m.mem.length ak2, .int .i64 m.save, .bool m.lets, .bool m.waits, .int .i64 m.halt, .slice aq3 m.ins.length ak3, .slice aq4 m.outs.length ak4, .int .i64 m.count], m) (List.mem_cons_of_mem _ List.mem_cons_self)).1.r.alloc ob).cell 1 _ rfl
      have ma4 := fun ob => ((S.out.box (X1, [.slice aq1 m.regs.length ak1, .int .i64 m.pc, .slice aq2 m.mem.length ak2, .int .i64 m.save, .bool m.lets, .bool m.waits, .int .i64 m.halt, .slice aq3 m.ins.length ak3, .slice aq4 m.outs.length ak4, .int .i64 m.count], m) (List.mem_cons_of_mem _ List.mem_cons_self)).1.r.alloc ob).cell 4 _ rfl
      have ma5 := fun ob => ((S.out.box (X1, [.slice aq1 m.regs.length ak1, .int .i64 m.pc, .slice aq2 m.mem.length ak2, .int .i64 m.save, .bool m.lets, .bool m.waits, .int .i64 m.halt, .slice aq3 m.ins.length ak3, .slice aq4 m.outs.length ak4, .int .i64 m.count], m) (List.mem_cons_of_mem _ List.mem_cons_self)).1.r.alloc ob).cell 5 _ rfl
      go_wp2_with fail
      clear ma1 ma4 ma5
      clear ac0 ac1 ac2 ac3 ac4 ac5 ac6 ac7 ac8 ac9
      have hsz : (wv3.alloc (.cells #[.slice bq1 x.regs.length bk1, .int .i64 x.pc, .slice bq2 x.mem.length bk2, .int .i64 x.save, .bool x.lets, .bool x.waits, .int .i64 x.halt, .slice bq3 x.ins.length bk3, .slice bq4 x.outs.length bk4, .int .i64 x.count] 25)).heap.size = wv3.heap.size + 1 := by simp
      generalize hZ : wv3.heap.size = X2 at S hsz ⊢
      clear hZ
      generalize wv3.alloc (.cells #[.slice bq1 x.regs.length bk1, .int .i64 x.pc, .slice bq2 x.mem.length bk2, .int .i64 x.save, .bool x.lets, .bool x.waits, .int .i64 x.halt, .slice bq3 x.ins.length bk3, .slice bq4 x.outs.length bk4, .int .i64 x.count] 25) = wv4 at S hsz ⊢
      have RY := RMach.plain (m := m) (r := .slice aq1 m.regs.length ak1) (e := .slice aq2 m.mem.length ak2) (i := .slice aq3 m.ins.length ak3) (o := .slice aq4 m.outs.length ak4) (S.out.box (X1, [.slice aq1 m.regs.length ak1, .int .i64 m.pc, .slice aq2 m.mem.length ak2, .int .i64 m.save, .bool m.lets, .bool m.waits, .int .i64 m.halt, .slice aq3 m.ins.length ak3, .slice aq4 m.outs.length ak4, .int .i64 m.count], m) (List.mem_cons_of_mem _ List.mem_cons_self)).2 m.pc m.save m.halt m.count false true
      have eS : sampleM m true = ⟨m.regs, m.pc, m.mem, m.save, false, true, m.halt, m.ins, m.outs, m.count⟩ := by
        unfold sampleM
        rw [hw, hl]
        rfl
      simp only [mv] at RY
      rw [← eS, ES.out] at RY
      have RY2 : RMach wv4 [.slice aq1 m.regs.length ak1, .int .i64 m.pc, .slice aq2 m.mem.length ak2, .int .i64 m.save, .bool false, .bool true, .int .i64 m.halt, .slice aq3 m.ins.length ak3, .slice aq4 m.outs.length ak4, .int .i64 m.count] sm := RY
      have S2 := hide (Sit.add S.out RY2)
      rw [hsz] at S2
      clear S RY RY2 eS hsz hw hl
      have S := S2
      clear S2
      generalize wv4.alloc (.cells #[.slice aq1 m.regs.length ak1, .int .i64 m.pc, .slice aq2 m.mem.length ak2, .int .i64 m.save, .bool false, .bool true, .int .i64 m.halt, .slice aq3 m.ins.length ak3, .slice aq4 m.outs.length ak4, .int .i64 m.count] 25) = yw at S ⊢
      refine (MchI.mchStep sm false _ _ (S.out.box ((X2 + 1), [.slice aq1 m.regs.length ak1, .int .i64 m.pc, .slice aq2 m.mem.length ak2, .int .i64 m.save, .bool false, .bool true, .int .i64 m.halt, .slice aq3 m.ins.length ak3, .slice aq4 m.outs.length ak4, .int .i64 m.count], sm) List.mem_cons_self).2 NS.out.mid).mono ?_
      rintro e wv5 ⟨c3, rfl, M3, hb⟩
      have M4 := M3.read
      rw [STX.out] at M4
      clear M3
      have S2 := hide (S.out.below hb)
      clear S
      have S := S2
      clear S2
      clear hb
      obtain ⟨dq1, dq2, dq3, dq4, dk1, dk2, dk3, dk4, rfl⟩ := rforms M4
      have S2 := hide (Sit.add S.out M4)
      simp only [mv] at M4 S2 ⊢
      clear S M4
      have S := S2
      clear S2
      have bc0 := (S.out.box (X2, [.slice bq1 x.regs.length bk1, .int .i64 x.pc, .slice bq2 x.mem.length bk2, .int .i64 x.save, .bool x.lets, .bool x.waits, .int .i64 x.halt, .slice bq3 x.ins.length bk3, .slice bq4 x.outs.length bk4, .int .i64 x.count], x) (List.mem_cons_of_mem _ (List.mem_cons_of_mem _ List.mem_cons_self))).1.r.cell 0 _ rfl
      have bc1 := (S.out.box (X2, [.slice bq1 x.regs.length bk1, .int .i64 x.pc, .slice bq2 x.mem.length bk2, .int .i64 x.save, .bool x.lets, .bool x.waits, .int .i64 x.halt, .slice bq3 x.ins.length bk3, .slice bq4 x.outs.length bk4, .int .i64 x.count], x) (List.mem_cons_of_mem _ (List.mem_cons_of_mem _ List.mem_cons_self))).1.r.cell 1 _ rfl
      have bc2 := (S.out.box (X2, [.slice bq1 x.regs.length bk1, .int .i64 x.pc, .slice bq2 x.mem.length bk2, .int .i64 x.save, .bool x.lets, .bool x.waits, .int .i64 x.halt, .slice bq3 x.ins.length bk3, .slice bq4 x.outs.length bk4, .int .i64 x.count], x) (List.mem_cons_of_mem _ (List.mem_cons_of_mem _ List.mem_cons_self))).1.r.cell 2 _ rfl
      have bc3 := (S.out.box (X2, [.slice bq1 x.regs.length bk1, .int .i64 x.pc, .slice bq2 x.mem.length bk2, .int .i64 x.save, .bool x.lets, .bool x.waits, .int .i64 x.halt, .slice bq3 x.ins.length bk3, .slice bq4 x.outs.length bk4, .int .i64 x.count], x) (List.mem_cons_of_mem _ (List.mem_cons_of_mem _ List.mem_cons_self))).1.r.cell 3 _ rfl
      have bc4 := (S.out.box (X2, [.slice bq1 x.regs.length bk1, .int .i64 x.pc, .slice bq2 x.mem.length bk2, .int .i64 x.save, .bool x.lets, .bool x.waits, .int .i64 x.halt, .slice bq3 x.ins.length bk3, .slice bq4 x.outs.length bk4, .int .i64 x.count], x) (List.mem_cons_of_mem _ (List.mem_cons_of_mem _ List.mem_cons_self))).1.r.cell 4 _ rfl
      have bc5 := (S.out.box (X2, [.slice bq1 x.regs.length bk1, .int .i64 x.pc, .slice bq2 x.mem.length bk2, .int .i64 x.save, .bool x.lets, .bool x.waits, .int .i64 x.halt, .slice bq3 x.ins.length bk3, .slice bq4 x.outs.length bk4, .int .i64 x.count], x) (List.mem_cons_of_mem _ (List.mem_cons_of_mem _ List.mem_cons_self))).1.r.cell 5 _ rfl
      have bc6 := (S.out.box (X2, [.slice bq1 x.regs.length bk1, .int .i64 x.pc, .slice bq2 x.mem.length bk2, .int .i64 x.save, .bool x.lets, .bool x.waits, .int .i64 x.halt, .slice bq3 x.ins.length bk3, .slice bq4 x.outs.length bk4, .int .i64 x.count], x) (List.mem_cons_of_mem _ (List.mem_cons_of_mem _ List.mem_cons_self))).1.r.cell 6 _ rfl
      have bc7 := (S.out.box (X2, [.slice bq1 x.regs.length bk1, .int .i64 x.pc, .slice bq2 x.mem.length bk2, .int .i64 x.save, .bool x.lets, .bool x.waits, .int .i64 x.halt, .slice bq3 x.ins.length bk3, .slice bq4 x.outs.length bk4, .int .i64 x.count], x) (List.mem_cons_of_mem _ (List.mem_cons_of_mem _ List.mem_cons_self))).1.r.cell 7 _ rfl
      have bc8 := (S.out.box (X2, [.slice bq1 x.regs.length bk1, .int .i64 x.pc, .slice bq2 x.mem.length bk2, .int .i64 x.save, .bool x.lets, .bool x.waits, .int .i64 x.halt, .slice bq3 x.ins.length bk3, .slice bq4 x.outs.length bk4, .int .i64 x.count], x) (List.mem_cons_of_mem _ (List.mem_cons_of_mem _ List.mem_cons_self))).1.r.cell 8 _ rfl
      have bc9 := (S.out.box (X2, [.slice bq1 x.regs.length bk1, .int .i64 x.pc, .slice bq2 x.mem.length bk2, .int .i64 x.save, .bool x.lets, .bool x.waits, .int .i64 x.halt, .slice bq3 x.ins.length bk3, .slice bq4 x.outs.length bk4, .int .i64 x.count], x) (List.mem_cons_of_mem _ (List.mem_cons_of_mem _ List.mem_cons_self))).1.r.cell 9 _ rfl
      go_wp2_with fail
      clear bc0 bc1 bc2 bc3 bc4 bc5 bc6 bc7 bc8 bc9
      generalize hZ : wv5.heap.size = X4 at S ⊢
      clear hZ
      generalize wv5.alloc (.cells #[.slice dq1 x.regs.length dk1, .int .i64 x.pc, .slice dq2 x.mem.length dk2, .int .i64 x.save, .bool x.lets, .bool x.waits, .int .i64 x.halt, .slice dq3 x.ins.length dk3, .slice dq4 x.outs.length dk4, .int .i64 x.count] 25) = wv6 at S ⊢
      refine (La.laMach x _ _ _ (S.out.box (X2, [.slice bq1 x.regs.length bk1, .int .i64 x.pc, .slice bq2 x.mem.length bk2, .int .i64 x.save, .bool x.lets, .bool x.waits, .int .i64 x.halt, .slice bq3 x.ins.length bk3, .slice bq4 x.outs.length bk4, .int .i64 x.count], x) (List.mem_cons_of_mem _ (List.mem_cons_of_mem _ List.mem_cons_self))).2 (S.out.box (X4, [.slice dq1 x.regs.length dk1, .int .i64 x.pc, .slice dq2 x.mem.length dk2, .int .i64 x.save, .bool x.lets, .bool x.waits, .int .i64 x.halt, .slice dq3 x.ins.length dk3, .slice dq4 x.outs.length dk4, .int .i64 x.count], x) List.mem_cons_self).2).mono ?_
      rintro e uu ⟨rfl, hb⟩
      have S2 := hide (S.out.below hb)
      clear S hb
      have S := S2
      clear S2
      have FIN := hide S.out.bw
      clear S
      go_wp2
      go_ret
      exact ⟨rfl, FIN.out⟩
    · skip
      obtain ⟨bq1, bq2, bq3, bq4, bk1, bk2, bk3, bk4, rfl⟩ := rforms M2
      have S2 := hide (Sit.add S.out M2)
      simp only [mv] at M2 S2 ⊢
      clear S M2
      have S := S2
      clear S2
      have ac0 := (S.out.box (X1, [.slice aq1 m.regs.length ak1, .int .i64 m.pc, .slice aq2 m.mem.length ak2, .int .i64 m.save, .bool m.lets, .bool m.waits, .int .i64 m.halt, .slice aq3 m.ins.length ak3, .slice aq4 m.outs.length ak4, .int .i64 m.count], m) (List.mem_cons_of_mem _ List.mem_cons_self)).1.r.cell 0 _ rfl
      have ac1 := (S.out.box (X1, [.slice aq1 m.regs.length ak1, .int .i64 m.pc, .slice aq2 m.mem.length ak2, .int .i64 m.save, .bool m.lets, .bool m.waits, .int .i64 m.halt, .slice aq3 m.ins.length ak3, .slice aq4 m.outs.length ak4, .int .i64 m.count], m) (List.mem_cons_of_mem _ List.mem_cons_self)).1.r.cell 1 _ rfl
      have ac2 := (S.out.box (X1, [.slice aq1 m.regs.length ak1, .int .i64 m.pc, .slice aq2 m.mem.length ak2, .int .i64 m.save, .bool m.lets, .bool m.waits, .int .i64 m.halt, .slice aq3 m.ins.length ak3, .slice aq4 m.outs.length ak4, .int .i64 m.count], m) (List.mem_cons_of_mem _ List.mem_cons_self)).1.r.cell 2 _ rfl
      have ac3 := (S.out.box (X1, [.slice aq1 m.regs.length ak1, .int .i64 m.pc, .slice aq2 m.mem.length ak2, .int .i64 m.save, .bool m.lets, .bool m.waits, .int .i64 m.halt, .slice aq3 m.ins.length ak3, .slice aq4 m.outs.length ak4, .int .i64 m.count], m) (List.mem_cons_of_mem _ List.mem_cons_self)).1.r.cell 3 _ rfl
      have ac4 := (S.out.box (X1, [.slice aq1 m.regs.length ak1, .int .i64 m.pc, .slice aq2 m.mem.length ak2, .int .i64 m.save, .bool m.lets, .bool m.waits, .int .i64 m.halt, .slice aq3 m.ins.length ak3, .slice aq4 m.outs.length ak4, .int .i64 m.count], m) (List.mem_cons_of_mem _ List.mem_cons_self)).1.r.cell 4 _ rfl
      have ac5 := (S.out.box (X1, [.slice aq1 m.regs.length ak1, .int .i64 m.pc, .slice aq2 m.mem.length ak2, .int .i64 m.save, .bool m.lets, .bool m.waits, .int .i64 m.halt, .slice aq3 m.ins.length ak3, .slice aq4 m.outs.length ak4, .int .i64 m.count], m) (List.mem_cons_of_mem _ List.mem_cons_self)).1.r.cell 5 _ rfl
      have ac6 := (S.out.box (X1, [.slice aq1 m.regs.length ak1, .int .i64 m.pc, .slice aq2 m.mem.length ak2, .int .i64 m.save, .bool m.lets, .bool m.waits, .int .i64 m.halt, .slice aq3 m.ins.length ak3, .slice aq4 m.outs.length ak4, .int .i64 m.count], m) (List.mem_cons_of_mem _ List.mem_cons_self)).1.r.cell 6 _ rfl
      have ac7 := (S.out.box (X1, [.slice aq1 m.regs.length ak1, .int .i64 m.pc, .slice aq2 m.mem.length ak2, .int .i64 m.save, .bool m.lets, .bool m.waits, .int .i64 m.halt, .slice aq3 m.ins.length ak3, .slice aq4 m.outs.length ak4, .int .i64 m.count], m) (List.mem_cons_of_mem _ List.mem_cons_self)).1.r.cell 7 _ rfl
      have ac8 := (S.out.box (X1, [.slice aq1 m.regs.length ak1, .int .i64 m.pc, .slice aq2 m.mem.length ak2, .int .i64 m.save, .bool m.lets, .bool m.waits, .int .i64 m.halt, .slice aq3 m.ins.length ak3, .slice aq4 m.outs.length ak4, .int .i64 m.count], m) (List.mem_cons_of_mem _ List.mem_cons_self)).1.r.cell 8 _ rfl
      have ac9 := (S.out.box (X1, [.slice aq1 m.regs.length ak1, .int .i64 m.pc, .slice aq2 m.mem.length ak2, .int .i64 m.save, .bool m.lets, .bool m.waits, .int .i64 m.halt, .slice aq3 m.ins.length ak3, .slice aq4 m.outs.length ak4, .int .i64 m.count], m) (List.mem_cons_of_mem _ List.mem_cons_self)).1.r.cell 9 _ rfl
      have ma1 := fun ob => ((S.out.box (X1, [.slice aq1 m.regs.length ak1, .int .i64 m.pc, .slice aq2 m.mem.length ak2, .int .i64 m.save, .bool m.lets, .bool m.waits, .int .i64 m.halt, .slice aq3 m.ins.length ak3, .slice aq4 m.outs.length ak4, .int .i64 m.count], m) (List.mem_cons_of_mem _ List.mem_cons_self)).1.r.alloc ob).cell 1 _ rfl
      have ma4 := fun ob => ((S.out.box (X1, [.slice aq1 m.regs.length ak1, .int .i64 m.pc, .slice aq2 m.mem.length ak2, .int .i64 m.save, .bool m.lets, .bool m.waits, .int .i64 m.halt, .slice aq3 m.ins.length ak3, .slice aq4 m.outs.length ak4, .int .i64 m.count], m) (List.mem_cons_of_mem _ List.mem_cons_self)).1.r.alloc ob).cell 4 _ rfl
      have ma5 := fun ob => ((S.out.box (X1, [.slice aq1 m.regs.length ak1, .int .i64 m.pc, .slice aq2 m.mem.length ak2, .int .i64 m.save, .bool m.lets, .bool m.waits, .int .i64 m.halt, .slice aq3 m.ins.length ak3, .slice aq4 m.outs.length ak4, .int .i64 m.count], m) (List.mem_cons_of_mem _ List.mem_cons_self)).1.r.alloc ob).cell 5 _ rfl
      go_wp2_with fail
      clear ma1 ma4 ma5
      clear ac0 ac1 ac2 ac3 ac4 ac5 ac6 ac7 ac8 ac9
      have hsz : (wv3.alloc (.cells #[.slice bq1 x.regs.length bk1, .int .i64 x.pc, .slice bq2 x.mem.length bk2, .int .i64 x.save, .bool x.lets, .bool x.waits, .int .i64 x.halt, .slice bq3 x.ins.length bk3, .slice bq4 x.outs.length bk4, .int .i64 x.count] 25)).heap.size = wv3.heap.size + 1 := by simp
      generalize hZ : wv3.heap.size = X2 at S hsz ⊢
      clear hZ
      generalize wv3.alloc (.cells #[.slice bq1 x.regs.length bk1, .int .i64 x.pc, .slice bq2 x.mem.length bk2, .int .i64 x.save, .bool x.lets, .bool x.waits, .int .i64 x.halt, .slice bq3 x.ins.length bk3, .slice bq4 x.outs.length bk4, .int .i64 x.count] 25) = wv4 at S hsz ⊢
      have RY := RMach.plain (m := m) (r := .slice aq1 m.regs.length ak1) (e := .slice aq2 m.mem.length ak2) (i := .slice aq3 m.ins.length ak3) (o := .slice aq4 m.outs.length ak4) (S.out.box (X1, [.slice aq1 m.regs.length ak1, .int .i64 m.pc, .slice aq2 m.mem.length ak2, .int .i64 m.save, .bool m.lets, .bool m.waits, .int .i64 m.halt, .slice aq3 m.ins.length ak3, .slice aq4 m.outs.length ak4, .int .i64 m.count], m) (List.mem_cons_of_mem _ List.mem_cons_self)).2 48 m.pc m.halt m.count false false
      have eS : sampleM m true = ⟨m.regs, 48, m.mem, m.pc, false, false, m.halt, m.ins, m.outs, m.count⟩ := by
        unfold sampleM
        rw [hw, hl]
        rfl
      simp only [mv] at RY
      rw [← eS, ES.out] at RY
      have RY2 : RMach wv4 [.slice aq1 m.regs.length ak1, .int .i64 48, .slice aq2 m.mem.length ak2, .int .i64 m.pc, .bool false, .bool false, .int .i64 m.halt, .slice aq3 m.ins.length ak3, .slice aq4 m.outs.length ak4, .int .i64 m.count] sm := RY
      have S2 := hide (Sit.add S.out RY2)
      rw [hsz] at S2
      clear S RY RY2 eS hsz hw hl
      have S := S2
      clear S2
      generalize wv4.alloc (.cells #[.slice aq1 m.regs.length ak1, .int .i64 48, .slice aq2 m.mem.length ak2, .int .i64 m.pc, .bool false, .bool false, .int .i64 m.halt, .slice aq3 m.ins.length ak3, .slice aq4 m.outs.length ak4, .int .i64 m.count] 25) = yw at S ⊢
      refine (MchI.mchStep sm false _ _ (S.out.box ((X2 + 1), [.slice aq1 m.regs.length ak1, .int .i64 48, .slice aq2 m.mem.length ak2, .int .i64 m.pc, .bool false, .bool false, .int .i64 m.halt, .slice aq3 m.ins.length ak3, .slice aq4 m.outs.length ak4, .int .i64 m.count], sm) List.mem_cons_self).2 NS.out.mid).mono ?_
      rintro e wv5 ⟨c3, rfl, M3, hb⟩
      have M4 := M3.read
      rw [STX.out] at M4
      clear M3
      have S2 := hide (S.out.below hb)
      clear S
      have S := S2
      clear S2
      clear hb
      obtain ⟨dq1, dq2, dq3, dq4, dk1, dk2, dk3, dk4, rfl⟩ := rforms M4
      have S2 := hide (Sit.add S.out M4)
      simp only [mv] at M4 S2 ⊢
      clear S M4
      have S := S2
      clear S2
      have bc0 := (S.out.box (X2, [.slice bq1 x.regs.length bk1, .int .i64 x.pc, .slice bq2 x.mem.length bk2, .int .i64 x.save, .bool x.lets, .bool x.waits, .int .i64 x.halt, .slice bq3 x.ins.length bk3, .slice bq4 x.outs.length bk4, .int .i64 x.count], x) (List.mem_cons_of_mem _ (List.mem_cons_of_mem _ List.mem_cons_self))).1.r.cell 0 _ rfl
      have bc1 := (S.out.box (X2, [.slice bq1 x.regs.length bk1, .int .i64 x.pc, .slice bq2 x.mem.length bk2, .int .i64 x.save, .bool x.lets, .bool x.waits, .int .i64 x.halt, .slice bq3 x.ins.length bk3, .slice bq4 x.outs.length bk4, .int .i64 x.count], x) (List.mem_cons_of_mem _ (List.mem_cons_of_mem _ List.mem_cons_self))).1.r.cell 1 _ rfl
      have bc2 := (S.out.box (X2, [.slice bq1 x.regs.length bk1, .int .i64 x.pc, .slice bq2 x.mem.length bk2, .int .i64 x.save, .bool x.lets, .bool x.waits, .int .i64 x.halt, .slice bq3 x.ins.length bk3, .slice bq4 x.outs.length bk4, .int .i64 x.count], x) (List.mem_cons_of_mem _ (List.mem_cons_of_mem _ List.mem_cons_self))).1.r.cell 2 _ rfl
      have bc3 := (S.out.box (X2, [.slice bq1 x.regs.length bk1, .int .i64 x.pc, .slice bq2 x.mem.length bk2, .int .i64 x.save, .bool x.lets, .bool x.waits, .int .i64 x.halt, .slice bq3 x.ins.length bk3, .slice bq4 x.outs.length bk4, .int .i64 x.count], x) (List.mem_cons_of_mem _ (List.mem_cons_of_mem _ List.mem_cons_self))).1.r.cell 3 _ rfl
      have bc4 := (S.out.box (X2, [.slice bq1 x.regs.length bk1, .int .i64 x.pc, .slice bq2 x.mem.length bk2, .int .i64 x.save, .bool x.lets, .bool x.waits, .int .i64 x.halt, .slice bq3 x.ins.length bk3, .slice bq4 x.outs.length bk4, .int .i64 x.count], x) (List.mem_cons_of_mem _ (List.mem_cons_of_mem _ List.mem_cons_self))).1.r.cell 4 _ rfl
      have bc5 := (S.out.box (X2, [.slice bq1 x.regs.length bk1, .int .i64 x.pc, .slice bq2 x.mem.length bk2, .int .i64 x.save, .bool x.lets, .bool x.waits, .int .i64 x.halt, .slice bq3 x.ins.length bk3, .slice bq4 x.outs.length bk4, .int .i64 x.count], x) (List.mem_cons_of_mem _ (List.mem_cons_of_mem _ List.mem_cons_self))).1.r.cell 5 _ rfl
      have bc6 := (S.out.box (X2, [.slice bq1 x.regs.length bk1, .int .i64 x.pc, .slice bq2 x.mem.length bk2, .int .i64 x.save, .bool x.lets, .bool x.waits, .int .i64 x.halt, .slice bq3 x.ins.length bk3, .slice bq4 x.outs.length bk4, .int .i64 x.count], x) (List.mem_cons_of_mem _ (List.mem_cons_of_mem _ List.mem_cons_self))).1.r.cell 6 _ rfl
      have bc7 := (S.out.box (X2, [.slice bq1 x.regs.length bk1, .int .i64 x.pc, .slice bq2 x.mem.length bk2, .int .i64 x.save, .bool x.lets, .bool x.waits, .int .i64 x.halt, .slice bq3 x.ins.length bk3, .slice bq4 x.outs.length bk4, .int .i64 x.count], x) (List.mem_cons_of_mem _ (List.mem_cons_of_mem _ List.mem_cons_self))).1.r.cell 7 _ rfl
      have bc8 := (S.out.box (X2, [.slice bq1 x.regs.length bk1, .int .i64 x.pc, .slice bq2 x.mem.length bk2, .int .i64 x.save, .bool x.lets, .bool x.waits, .int .i64 x.halt, .slice bq3 x.ins.length bk3, .slice bq4 x.outs.length bk4, .int .i64 x.count], x) (List.mem_cons_of_mem _ (List.mem_cons_of_mem _ List.mem_cons_self))).1.r.cell 8 _ rfl
      have bc9 := (S.out.box (X2, [.slice bq1 x.regs.length bk1, .int .i64 x.pc, .slice bq2 x.mem.length bk2, .int .i64 x.save, .bool x.lets, .bool x.waits, .int .i64 x.halt, .slice bq3 x.ins.length bk3, .slice bq4 x.outs.length bk4, .int .i64 x.count], x) (List.mem_cons_of_mem _ (List.mem_cons_of_mem _ List.mem_cons_self))).1.r.cell 9 _ rfl
      go_wp2_with fail
      clear bc0 bc1 bc2 bc3 bc4 bc5 bc6 bc7 bc8 bc9
      generalize hZ : wv5.heap.size = X4 at S ⊢
      clear hZ
      generalize wv5.alloc (.cells #[.slice dq1 x.regs.length dk1, .int .i64 x.pc, .slice dq2 x.mem.length dk2, .int .i64 x.save, .bool x.lets, .bool x.waits, .int .i64 x.halt, .slice dq3 x.ins.length dk3, .slice dq4 x.outs.length dk4, .int .i64 x.count] 25) = wv6 at S ⊢
      refine (La.laMach x _ _ _ (S.out.box (X2, [.slice bq1 x.regs.length bk1, .int .i64 x.pc, .slice bq2 x.mem.length bk2, .int .i64 x.save, .bool x.lets, .bool x.waits, .int .i64 x.halt, .slice bq3 x.ins.length bk3, .slice bq4 x.outs.length bk4, .int .i64 x.count], x) (List.mem_cons_of_mem _ (List.mem_cons_of_mem _ List.mem_cons_self))).2 (S.out.box (X4, [.slice dq1 x.regs.length dk1, .int .i64 x.pc, .slice dq2 x.mem.length dk2, .int .i64 x.save, .bool x.lets, .bool x.waits, .int .i64 x.halt, .slice dq3 x.ins.length dk3, .slice dq4 x.outs.length dk4, .int .i64 x.count], x) List.mem_cons_self).2).mono ?_
      rintro e uu ⟨rfl, hb⟩
      have S2 := hide (S.out.below hb)
      clear S hb
      have S := S2
      clear S2
      have FIN := hide S.out.bw
      clear S
      go_wp2
      go_ret
      exact ⟨rfl, FIN.out⟩
    · skip
      obtain ⟨bq1, bq2, bq3, bq4, bk1, bk2, bk3, bk4, rfl⟩ := rforms M2
      have S2 := hide (Sit.add S.out M2)
      simp only [mv] at M2 S2 ⊢
      clear S M2
      have S := S2
      clear S2
      have ac0 := (S.out.box (X1, [.slice aq1 m.regs.length ak1, .int .i64 m.pc, .slice aq2 m.mem.length ak2, .int .i64 m.save, .bool m.lets, .bool m.waits, .int .i64 m.halt, .slice aq3 m.ins.length ak3, .slice aq4 m.outs.length ak4, .int .i64 m.count], m) (List.mem_cons_of_mem _ List.mem_cons_self)).1.r.cell 0 _ rfl
      have ac1 := (S.out.box (X1, [.slice aq1 m.regs.length ak1, .int .i64 m.pc, .slice aq2 m.mem.length ak2, .int .i64 m.save, .bool m.lets, .bool m.waits, .int .i64 m.halt, .slice aq3 m.ins.length ak3, .slice aq4 m.outs.length ak4, .int .i64 m.count], m) (List.mem_cons_of_mem _ List.mem_cons_self)).1.r.cell 1 _ rfl
      have ac2 := (S.out.box (X1, [.slice aq1 m.regs.length ak1, .int .i64 m.pc, .slice aq2 m.mem.length ak2, .int .i64 m.save, .bool m.lets, .bool m.waits, .int .i64 m.halt, .slice aq3 m.ins.length ak3, .slice aq4 m.outs.length ak4, .int .i64 m.count], m) (List.mem_cons_of_mem _ List.mem_cons_self)).1.r.cell 2 _ rfl
      have ac3 := (S.out.box (X1, [.slice aq1 m.regs.length ak1, .int .i64 m.pc, .slice aq2 m.mem.length ak2, .int .i64 m.save, .bool m.lets, .bool m.waits, .int .i64 m.halt, .slice aq3 m.ins.length ak3, .slice aq4 m.outs.length ak4, .int .i64 m.count], m) (List.mem_cons_of_mem _ List.mem_cons_self)).1.r.cell 3 _ rfl
      have ac4 := (S.out.box (X1, [.slice aq1 m.regs.length ak1, .int .i64 m.pc, .slice aq2 m.mem.length ak2, .int .i64 m.save, .bool m.lets, .bool m.waits, .int .i64 m.halt, .slice aq3 m.ins.length ak3, .slice aq4 m.outs.length ak4, .int .i64 m.count], m) (List.mem_cons_of_mem _ List.mem_cons_self)).1.r.cell 4 _ rfl
      have ac5 := (S.out.box (X1, [.slice aq1 m.regs.length ak1, .int .i64 m.pc, .slice aq2 m.mem.length ak2, .int .i64 m.save, .bool m.lets, .bool m.waits, .int .i64 m.halt, .slice aq3 m.ins.length ak3, .slice aq4 m.outs.length ak4, .int .i64 m.count], m) (List.mem_cons_of_mem _ List.mem_cons_self)).1.r.cell 5 _ rfl
      have ac6 := (S.out.box (X1, [.slice aq1 m.regs.length ak1, .int .i64 m.pc, .slice aq2 m.mem.length ak2, .int .i64 m.save, .bool m.lets, .bool m.waits, .int .i64 m.halt, .slice aq3 m.ins.length ak3, .slice aq4 m.outs.length ak4, .int .i64 m.count], m) (List.mem_cons_of_mem _ List.mem_cons_self)).1.r.cell 6 _ rfl
      have ac7 := (S.out.box (X1, [.slice aq1 m.regs.length ak1, .int .i64 m.pc, .slice aq2 m.mem.length ak2, .int .i64 m.save, .bool m.lets, .bool m.waits, .int .i64 m.halt, .slice aq3 m.ins.length ak3, .slice aq4 m.outs.length ak4, .int .i64 m.count], m) (List.mem_cons_of_mem _ List.mem_cons_self)).1.r.cell 7 _ rfl
      have ac8 := (S.out.box (X1, [.slice aq1 m.regs.length ak1, .int .i64 m.pc, .slice aq2 m.mem.length ak2, .int .i64 m.save, .bool m.lets, .bool m.waits, .int .i64 m.halt, .slice aq3 m.ins.length ak3, .slice aq4 m.outs.length ak4, .int .i64 m.count], m) (List.mem_cons_of_mem _ List.mem_cons_self)).1.r.cell 8 _ rfl
      have ac9 := (S.out.box (X1, [.slice aq1 m.regs.length ak1, .int .i64 m.pc, .slice aq2 m.mem.length ak2, .int .i64 m.save, .bool m.lets, .bool m.waits, .int .i64 m.halt, .slice aq3 m.ins.length ak3, .slice aq4 m.outs.length ak4, .int .i64 m.count], m) (List.mem_cons_of_mem _ List.mem_cons_self)).1.r.cell 9 _ rfl
      have ma1 := fun ob => ((S.out.box (X1, [.slice aq1 m.regs.length ak1, .int .i64 m.pc, .slice aq2 m.mem.length ak2, .int .i64 m.save, .bool m.lets, .bool m.waits, .int .i64 m.halt, .slice aq3 m.ins.length ak3, .slice aq4 m.outs.length ak4, .int .i64 m.count], m) (List.mem_cons_of_mem _ List.mem_cons_self)).1.r.alloc ob).cell 1 _ rfl
      have ma4 := fun ob => ((S.out.box (X1, [.slice aq1 m.regs.length ak1, .int .i64 m.pc, .slice aq2 m.mem.length ak2, .int .i64 m.save, .bool m.lets, .bool m.waits, .int .i64 m.halt, .slice aq3 m.ins.length ak3, .slice aq4 m.outs.length ak4, .int .i64 m.count], m) (List.mem_cons_of_mem _ List.mem_cons_self)).1.r.alloc ob).cell 4 _ rfl
      have ma5 := fun ob => ((S.out.box (X1, [.slice aq1 m.regs.length ak1, .int .i64 m.pc, .slice aq2 m.mem.length ak2, .int .i64 m.save, .bool m.lets, .bool m.waits, .int .i64 m.halt, .slice aq3 m.ins.length ak3, .slice aq4 m.outs.length ak4, .int .i64 m.count], m) (List.mem_cons_of_mem _ List.mem_cons_self)).1.r.alloc ob).cell 5 _ rfl
      go_wp2_with fail
      clear ma1 ma4 ma5
      clear ac0 ac1 ac2 ac3 ac4 ac5 ac6 ac7 ac8 ac9
      have hsz : (wv3.alloc (.cells #[.slice bq1 x.regs.length bk1, .int .i64 x.pc, .slice bq2 x.mem.length bk2, .int .i64 x.save, .bool x.lets, .bool x.waits, .int .i64 x.halt, .slice bq3 x.ins.length bk3, .slice bq4 x.outs.length bk4, .int .i64 x.count] 25)).heap.size = wv3.heap.size + 1 := by simp
      generalize hZ : wv3.heap.size = X2 at S hsz ⊢
      clear hZ
      generalize wv3.alloc (.cells #[.slice bq1 x.regs.length bk1, .int .i64 x.pc, .slice bq2 x.mem.length bk2, .int .i64 x.save, .bool x.lets, .bool x.waits, .int .i64 x.halt, .slice bq3 x.ins.length bk3, .slice bq4 x.outs.length bk4, .int .i64 x.count] 25) = wv4 at S hsz ⊢
      have RY := RMach.plain (m := m) (r := .slice aq1 m.regs.length ak1) (e := .slice aq2 m.mem.length ak2) (i := .slice aq3 m.ins.length ak3) (o := .slice aq4 m.outs.length ak4) (S.out.box (X1, [.slice aq1 m.regs.length ak1, .int .i64 m.pc, .slice aq2 m.mem.length ak2, .int .i64 m.save, .bool m.lets, .bool m.waits, .int .i64 m.halt, .slice aq3 m.ins.length ak3, .slice aq4 m.outs.length ak4, .int .i64 m.count], m) (List.mem_cons_of_mem _ List.mem_cons_self)).2 m.pc m.save m.halt m.count false true
      have eS : sampleM m false = ⟨m.regs, m.pc, m.mem, m.save, false, true, m.halt, m.ins, m.outs, m.count⟩ := by
        unfold sampleM
        rw [hw, hl]
        rfl
      simp only [mv] at RY
      rw [← eS, ES.out] at RY
      have RY2 : RMach wv4 [.slice aq1 m.regs.length ak1, .int .i64 m.pc, .slice aq2 m.mem.length ak2, .int .i64 m.save, .bool false, .bool true, .int .i64 m.halt, .slice aq3 m.ins.length ak3, .slice aq4 m.outs.length ak4, .int .i64 m.count] sm := RY
      have S2 := hide (Sit.add S.out RY2)
      rw [hsz] at S2
      clear S RY RY2 eS hsz hw hl
      have S := S2
      clear S2
      generalize wv4.alloc (.cells #[.slice aq1 m.regs.length ak1, .int .i64 m.pc, .slice aq2 m.mem.length ak2, .int .i64 m.save, .bool false, .bool true, .int .i64 m.halt, .slice aq3 m.ins.length ak3, .slice aq4 m.outs.length ak4, .int .i64 m.count] 25) = yw at S ⊢
      refine (MchI.mchStep sm false _ _ (S.out.box ((X2 + 1), [.slice aq1 m.regs.length ak1, .int .i64 m.pc, .slice aq2 m.mem.length ak2, .int .i64 m.save, .bool false, .bool true, .int .i64 m.halt, .slice aq3 m.ins.length ak3, .slice aq4 m.outs.length ak4, .int .i64 m.count], sm) List.mem_cons_self).2 NS.out.mid).mono ?_
      rintro e wv5 ⟨c3, rfl, M3, hb⟩
      have M4 := M3.read
      rw [STX.out] at M4
      clear M3
      have S2 := hide (S.out.below hb)
      clear S
      have S := S2
      clear S2
      clear hb
      obtain ⟨dq1, dq2, dq3, dq4, dk1, dk2, dk3, dk4, rfl⟩ := rforms M4
      have S2 := hide (Sit.add S.out M4)
      simp only [mv] at M4 S2 ⊢
      clear S M4
      have S := S2
      clear S2
      have bc0 := (S.out.box (X2, [.slice bq1 x.regs.length bk1, .int .i64 x.pc, .slice bq2 x.mem.length bk2, .int .i64 x.save, .bool x.lets, .bool x.waits, .int .i64 x.halt, .slice bq3 x.ins.length bk3, .slice bq4 x.outs.length bk4, .int .i64 x.count], x) (List.mem_cons_of_mem _ (List.mem_cons_of_mem _ List.mem_cons_self))).1.r.cell 0 _ rfl
      have bc1 := (S.out.box (X2, [.slice bq1 x.regs.length bk1, .int .i64 x.pc, .slice bq2 x.mem.length bk2, .int .i64 x.save, .bool x.lets, .bool x.waits, .int .i64 x.halt, .slice bq3 x.ins.length bk3, .slice bq4 x.outs.length bk4, .int .i64 x.count], x) (List.mem_cons_of_mem _ (List.mem_cons_of_mem _ List.mem_cons_self))).1.r.cell 1 _ rfl
      have bc2 := (S.out.box (X2, [.slice bq1 x.regs.length bk1, .int .i64 x.pc, .slice bq2 x.mem.length bk2, .int .i64 x.save, .bool x.lets, .bool x.waits, .int .i64 x.halt, .slice bq3 x.ins.length bk3, .slice bq4 x.outs.length bk4, .int .i64 x.count], x) (List.mem_cons_of_mem _ (List.mem_cons_of_mem _ List.mem_cons_self))).1.r.cell 2 _ rfl
      have bc3 := (S.out.box (X2, [.slice bq1 x.regs.length bk1, .int .i64 x.pc, .slice bq2 x.mem.length bk2, .int .i64 x.save, .bool x.lets, .bool x.waits, .int .i64 x.halt, .slice bq3 x.ins.length bk3, .slice bq4 x.outs.length bk4, .int .i64 x.count], x) (List.mem_cons_of_mem _ (List.mem_cons_of_mem _ List.mem_cons_self))).1.r.cell 3 _ rfl
      have bc4 := (S.out.box (X2, [.slice bq1 x.regs.length bk1, .int .i64 x.pc, .slice bq2 x.mem.length bk2, .int .i64 x.save, .bool x.lets, .bool x.waits, .int .i64 x.halt, .slice bq3 x.ins.length bk3, .slice bq4 x.outs.length bk4, .int .i64 x.count], x) (List.mem_cons_of_mem _ (List.mem_cons_of_mem _ List.mem_cons_self))).1.r.cell 4 _ rfl
      have bc5 := (S.out.box (X2, [.slice bq1 x.regs.length bk1, .int .i64 x.pc, .slice bq2 x.mem.length bk2, .int .i64 x.save, .bool x.lets, .bool x.waits, .int .i64 x.halt, .slice bq3 x.ins.length bk3, .slice bq4 x.outs.length bk4, .int .i64 x.count], x) (List.mem_cons_of_mem _ (List.mem_cons_of_mem _ List.mem_cons_self))).1.r.cell 5 _ rfl
      have bc6 := (S.out.box (X2, [.slice bq1 x.regs.length bk1, .int .i64 x.pc, .slice bq2 x.mem.length bk2, .int .i64 x.save, .bool x.lets, .bool x.waits, .int .i64 x.halt, .slice bq3 x.ins.length bk3, .slice bq4 x.outs.length bk4, .int .i64 x.count], x) (List.mem_cons_of_mem _ (List.mem_cons_of_mem _ List.mem_cons_self))).1.r.cell 6 _ rfl
      have bc7 := (S.out.box (X2, [.slice bq1 x.regs.length bk1, .int .i64 x.pc, .slice bq2 x.mem.length bk2, .int .i64 x.save, .bool x.lets, .bool x.waits, .int .i64 x.halt, .slice bq3 x.ins.length bk3, .slice bq4 x.outs.length bk4, .int .i64 x.count], x) (List.mem_cons_of_mem _ (List.mem_cons_of_mem _ List.mem_cons_self))).1.r.cell 7 _ rfl
      have bc8 := (S.out.box (X2, [.slice bq1 x.regs.length bk1, .int .i64 x.pc, .slice bq2 x.mem.length bk2, .int .i64 x.save, .bool x.lets, .bool x.waits, .int .i64 x.halt, .slice bq3 x.ins.length bk3, .slice bq4 x.outs.length bk4, .int .i64 x.count], x) (List.mem_cons_of_mem _ (List.mem_cons_of_mem _ List.mem_cons_self))).1.r.cell 8 _ rfl
      have bc9 := (S.out.box (X2, [.slice bq1 x.regs.length bk1, .int .i64 x.pc, .slice bq2 x.mem.length bk2, .int .i64 x.save, .bool x.lets, .bool x.waits, .int .i64 x.halt, .slice bq3 x.ins.length bk3, .slice bq4 x.outs.length bk4, .int .i64 x.count], x) (List.mem_cons_of_mem _ (List.mem_cons_of_mem _ List.mem_cons_self))).1.r.cell 9 _ rfl
      go_wp2_with fail
      clear bc0 bc1 bc2 bc3 bc4 bc5 bc6 bc7 bc8 bc9
      generalize hZ : wv5.heap.size = X4 at S ⊢
      clear hZ
      generalize wv5.alloc (.cells #[.slice dq1 x.regs.length dk1, .int .i64 x.pc, .slice dq2 x.mem.length dk2, .int .i64 x.save, .bool x.lets, .bool x.waits, .int .i64 x.halt, .slice dq3 x.ins.length dk3, .slice dq4 x.outs.length dk4, .int .i64 x.count] 25) = wv6 at S ⊢
      refine (La.laMach x _ _ _ (S.out.box (X2, [.slice bq1 x.regs.length bk1, .int .i64 x.pc, .slice bq2 x.mem.length bk2, .int .i64 x.save, .bool x.lets, .bool x.waits, .int .i64 x.halt, .slice bq3 x.ins.length bk3, .slice bq4 x.outs.length bk4, .int .i64 x.count], x) (List.mem_cons_of_mem _ (List.mem_cons_of_mem _ List.mem_cons_self))).2 (S.out.box (X4, [.slice dq1 x.regs.length dk1, .int .i64 x.pc, .slice dq2 x.mem.length dk2, .int .i64 x.save, .bool x.lets, .bool x.waits, .int .i64 x.halt, .slice dq3 x.ins.length dk3, .slice dq4 x.outs.length dk4, .int .i64 x.count], x) List.mem_cons_self).2).mono ?_
      rintro e uu ⟨rfl, hb⟩
      have S2 := hide (S.out.below hb)
      clear S hb
      have S := S2
      clear S2
      have FIN := hide S.out.bw
      clear S
      go_wp2
      go_ret
      exact ⟨rfl, FIN.out⟩
    · skip
      obtain ⟨bq1, bq2, bq3, bq4, bk1, bk2, bk3, bk4, rfl⟩ := rforms M2
      have S2 := hide (Sit.add S.out M2)
      simp only [mv] at M2 S2 ⊢
      clear S M2
      have S := S2
      clear S2
      have ac0 := (S.out.box (X1, [.slice aq1 m.regs.length ak1, .int .i64 m.pc, .slice aq2 m.mem.length ak2, .int .i64 m.save, .bool m.lets, .bool m.waits, .int .i64 m.halt, .slice aq3 m.ins.length ak3, .slice aq4 m.outs.length ak4, .int .i64 m.count], m) (List.mem_cons_of_mem _ List.mem_cons_self)).1.r.cell 0 _ rfl
      have ac1 := (S.out.box (X1, [.slice aq1 m.regs.length ak1, .int .i64 m.pc, .slice aq2 m.mem.length ak2, .int .i64 m.save, .bool m.lets, .bool m.waits, .int .i64 m.halt, .slice aq3 m.ins.length ak3, .slice aq4 m.outs.length ak4, .int .i64 m.count], m) (List.mem_cons_of_mem _ List.mem_cons_self)).1.r.cell 1 _ rfl
      have ac2 := (S.out.box (X1, [.slice aq1 m.regs.length ak1, .int .i64 m.pc, .slice aq2 m.mem.length ak2, .int .i64 m.save, .bool m.lets, .bool m.waits, .int .i64 m.halt, .slice aq3 m.ins.length ak3, .slice aq4 m.outs.length ak4, .int .i64 m.count], m) (List.mem_cons_of_mem _ List.mem_cons_self)).1.r.cell 2 _ rfl
      have ac3 := (S.out.box (X1, [.slice aq1 m.regs.length ak1, .int .i64 m.pc, .slice aq2 m.mem.length ak2, .int .i64 m.save, .bool m.lets, .bool m.waits, .int .i64 m.halt, .slice aq3 m.ins.length ak3, .slice aq4 m.outs.length ak4, .int .i64 m.count], m) (List.mem_cons_of_mem _ List.mem_cons_self)).1.r.cell 3 _ rfl
      have ac4 := (S.out.box (X1, [.slice aq1 m.regs.length ak1, .int .i64 m.pc, .slice aq2 m.mem.length ak2, .int .i64 m.save, .bool m.lets, .bool m.waits, .int .i64 m.halt, .slice aq3 m.ins.length ak3, .slice aq4 m.outs.length ak4, .int .i64 m.count], m) (List.mem_cons_of_mem _ List.mem_cons_self)).1.r.cell 4 _ rfl
      have ac5 := (S.out.box (X1, [.slice aq1 m.regs.length ak1, .int .i64 m.pc, .slice aq2 m.mem.length ak2, .int .i64 m.save, .bool m.lets, .bool m.waits, .int .i64 m.halt, .slice aq3 m.ins.length ak3, .slice aq4 m.outs.length ak4, .int .i64 m.count], m) (List.mem_cons_of_mem _ List.mem_cons_self)).1.r.cell 5 _ rfl
      have ac6 := (S.out.box (X1, [.slice aq1 m.regs.length ak1, .int .i64 m.pc, .slice aq2 m.mem.length ak2, .int .i64 m.save, .bool m.lets, .bool m.waits, .int .i64 m.halt, .slice aq3 m.ins.length ak3, .slice aq4 m.outs.length ak4, .int .i64 m.count], m) (List.mem_cons_of_mem _ List.mem_cons_self)).1.r.cell 6 _ rfl
      have ac7 := (S.out.box (X1, [.slice aq1 m.regs.length ak1, .int .i64 m.pc, .slice aq2 m.mem.length ak2, .int .i64 m.save, .bool m.lets, .bool m.waits, .int .i64 m.halt, .slice aq3 m.ins.length ak3, .slice aq4 m.outs.length ak4, .int .i64 m.count], m) (List.mem_cons_of_mem _ List.mem_cons_self)).1.r.cell 7 _ rfl
      have ac8 := (S.out.box (X1, [.slice aq1 m.regs.length ak1, .int .i64 m.pc, .slice aq2 m.mem.length ak2, .int .i64 m.save, .bool m.lets, .bool m.waits, .int .i64 m.halt, .slice aq3 m.ins.length ak3, .slice aq4 m.outs.length ak4, .int .i64 m.count], m) (List.mem_cons_of_mem _ List.mem_cons_self)).1.r.cell 8 _ rfl
      have ac9 := (S.out.box (X1, [.slice aq1 m.regs.length ak1, .int .i64 m.pc, .slice aq2 m.mem.length ak2, .int .i64 m.save, .bool m.lets, .bool m.waits, .int .i64 m.halt, .slice aq3 m.ins.length ak3, .slice aq4 m.outs.length ak4, .int .i64 m.count], m) (List.mem_cons_of_mem _ List.mem_cons_self)).1.r.cell 9 _ rfl
      have ma1 := fun ob => ((S.out.box (X1, [.slice aq1 m.regs.length ak1, .int .i64 m.pc, .slice aq2 m.mem.length ak2, .int .i64 m.save, .bool m.lets, .bool m.waits, .int .i64 m.halt, .slice aq3 m.ins.length ak3, .slice aq4 m.outs.length ak4, .int .i64 m.count], m) (List.mem_cons_of_mem _ List.mem_cons_self)).1.r.alloc ob).cell 1 _ rfl
      have ma4 := fun ob => ((S.out.box (X1, [.slice aq1 m.regs.length ak1, .int .i64 m.pc, .slice aq2 m.mem.length ak2, .int .i64 m.save, .bool m.lets, .bool m.waits, .int .i64 m.halt, .slice aq3 m.ins.length ak3, .slice aq4 m.outs.length ak4, .int .i64 m.count], m) (List.mem_cons_of_mem _ List.mem_cons_self)).1.r.alloc ob).cell 4 _ rfl
      have ma5 := fun ob => ((S.out.box (X1, [.slice aq1 m.regs.length ak1, .int .i64 m.pc, .slice aq2 m.mem.length ak2, .int .i64 m.save, .bool m.lets, .bool m.waits, .int .i64 m.halt, .slice aq3 m.ins.length ak3, .slice aq4 m.outs.length ak4, .int .i64 m.count], m) (List.mem_cons_of_mem _ List.mem_cons_self)).1.r.alloc ob).cell 5 _ rfl
      go_wp2_with fail
      clear ma1 ma4 ma5
      clear ac0 ac1 ac2 ac3 ac4 ac5 ac6 ac7 ac8 ac9
      have hsz : (wv3.alloc (.cells #[.slice bq1 x.regs.length bk1, .int .i64 x.pc, .slice bq2 x.mem.length bk2, .int .i64 x.save, .bool x.lets, .bool x.waits, .int .i64 x.halt, .slice bq3 x.ins.length bk3, .slice bq4 x.outs.length bk4, .int .i64 x.count] 25)).heap.size = wv3.heap.size + 1 := by simp
      generalize hZ : wv3.heap.size = X2 at S hsz ⊢
      clear hZ
      generalize wv3.alloc (.cells #[.slice bq1 x.regs.length bk1, .int .i64 x.pc, .slice bq2 x.mem.length bk2, .int .i64 x.save, .bool x.lets, .bool x.waits, .int .i64 x.halt, .slice bq3 x.ins.length bk3, .slice bq4 x.outs.length bk4, .int .i64 x.count] 25) = wv4 at S hsz ⊢
      have RY := RMach.plain (m := m) (r := .slice aq1 m.regs.length ak1) (e := .slice aq2 m.mem.length ak2) (i := .slice aq3 m.ins.length ak3) (o := .slice aq4 m.outs.length ak4) (S.out.box (X1, [.slice aq1 m.regs.length ak1, .int .i64 m.pc, .slice aq2 m.mem.length ak2, .int .i64 m.save, .bool m.lets, .bool m.waits, .int .i64 m.halt, .slice aq3 m.ins.length ak3, .slice aq4 m.outs.length ak4, .int .i64 m.count], m) (List.mem_cons_of_mem _ List.mem_cons_self)).2 48 m.pc m.halt m.count false false
      have eS : sampleM m false = ⟨m.regs, 48, m.mem, m.pc, false, false, m.halt, m.ins, m.outs, m.count⟩ := by
        unfold sampleM
        rw [hw, hl]
        rfl
      simp only [mv] at RY
      rw [← eS, ES.out] at RY
      have RY2 : RMach wv4 [.slice aq1 m.regs.length ak1, .int .i64 48, .slice aq2 m.mem.length ak2, .int .i64 m.pc, .bool false, .bool false, .int .i64 m.halt, .slice aq3 m.ins.length ak3, .slice aq4 m.outs.length ak4, .int .i64 m.count] sm := RY
      have S2 := hide (Sit.add S.out RY2)
      rw [hsz] at S2
      clear S RY RY2 eS hsz hw hl
      have S := S2
      clear S2
      generalize wv4.alloc (.cells #[.slice aq1 m.regs.length ak1, .int .i64 48, .slice aq2 m.mem.length ak2, .int .i64 m.pc, .bool false, .bool false, .int .i64 m.halt, .slice aq3 m.ins.length ak3, .slice aq4 m.outs.length ak4, .int .i64 m.count] 25) = yw at S ⊢
      refine (MchI.mchStep sm false _ _ (S.out.box ((X2 + 1), [.slice aq1 m.regs.length ak1, .int .i64 48, .slice aq2 m.mem.length ak2, .int .i64 m.pc, .bool false, .bool false, .int .i64 m.halt, .slice aq3 m.ins.length ak3, .slice aq4 m.outs.length ak4, .int .i64 m.count], sm) List.mem_cons_self).2 NS.out.mid).mono ?_
      rintro e wv5 ⟨c3, rfl, M3, hb⟩
      have M4 := M3.read
      rw [STX.out] at M4
      clear M3
      have S2 := hide (S.out.below hb)
      clear S
      have S := S2
      clear S2
      clear hb
      obtain ⟨dq1, dq2, dq3, dq4, dk1, dk2, dk3, dk4, rfl⟩ := rforms M4
      have S2 := hide (Sit.add S.out M4)
      simp only [mv] at M4 S2 ⊢
      clear S M4
      have S := S2
      clear S2
      have bc0 := (S.out.box (X2, [.slice bq1 x.regs.length bk1, .int .i64 x.pc, .slice bq2 x.mem.length bk2, .int .i64 x.save, .bool x.lets, .bool x.waits, .int .i64 x.halt, .slice bq3 x.ins.length bk3, .slice bq4 x.outs.length bk4, .int .i64 x.count], x) (List.mem_cons_of_mem _ (List.mem_cons_of_mem _ List.mem_cons_self))).1.r.cell 0 _ rfl
      have bc1 := (S.out.box (X2, [.slice bq1 x.regs.length bk1, .int .i64 x.pc, .slice bq2 x.mem.length bk2, .int .i64 x.save, .bool x.lets, .bool x.waits, .int .i64 x.halt, .slice bq3 x.ins.length bk3, .slice bq4 x.outs.length bk4, .int .i64 x.count], x) (List.mem_cons_of_mem _ (List.mem_cons_of_mem _ List.mem_cons_self))).1.r.cell 1 _ rfl
      have bc2 := (S.out.box (X2, [.slice bq1 x.regs.length bk1, .int .i64 x.pc, .slice bq2 x.mem.length bk2, .int .i64 x.save, .bool x.lets, .bool x.waits, .int .i64 x.halt, .slice bq3 x.ins.length bk3, .slice bq4 x.outs.length bk4, .int .i64 x.count], x) (List.mem_cons_of_mem _ (List.mem_cons_of_mem _ List.mem_cons_self))).1.r.cell 2 _ rfl
      have bc3 := (S.out.box (X2, [.slice bq1 x.regs.length bk1, .int .i64 x.pc, .slice bq2 x.mem.length bk2, .int .i64 x.save, .bool x.lets, .bool x.waits, .int .i64 x.halt, .slice bq3 x.ins.length bk3, .slice bq4 x.outs.length bk4, .int .i64 x.count], x) (List.mem_cons_of_mem _ (List.mem_cons_of_mem _ List.mem_cons_self))).1.r.cell 3 _ rfl
      have bc4 := (S.out.box (X2, [.slice bq1 x.regs.length bk1, .int .i64 x.pc, .slice bq2 x.mem.length bk2, .int .i64 x.save, .bool x.lets, .bool x.waits, .int .i64 x.halt, .slice bq3 x.ins.length bk3, .slice bq4 x.outs.length bk4, .int .i64 x.count], x) (List.mem_cons_of_mem _ (List.mem_cons_of_mem _ List.mem_cons_self))).1.r.cell 4 _ rfl
      have bc5 := (S.out.box (X2, [.slice bq1 x.regs.length bk1, .int .i64 x.pc, .slice bq2 x.mem.length bk2, .int .i64 x.save, .bool x.lets, .bool x.waits, .int .i64 x.halt, .slice bq3 x.ins.length bk3, .slice bq4 x.outs.length bk4, .int .i64 x.count], x) (List.mem_cons_of_mem _ (List.mem_cons_of_mem _ List.mem_cons_self))).1.r.cell 5 _ rfl
      have bc6 := (S.out.box (X2, [.slice bq1 x.regs.length bk1, .int .i64 x.pc, .slice bq2 x.mem.length bk2, .int .i64 x.save, .bool x.lets, .bool x.waits, .int .i64 x.halt, .slice bq3 x.ins.length bk3, .slice bq4 x.outs.length bk4, .int .i64 x.count], x) (List.mem_cons_of_mem _ (List.mem_cons_of_mem _ List.mem_cons_self))).1.r.cell 6 _ rfl
      have bc7 := (S.out.box (X2, [.slice bq1 x.regs.length bk1, .int .i64 x.pc, .slice bq2 x.mem.length bk2, .int .i64 x.save, .bool x.lets, .bool x.waits, .int .i64 x.halt, .slice bq3 x.ins.length bk3, .slice bq4 x.outs.length bk4, .int .i64 x.count], x) (List.mem_cons_of_mem _ (List.mem_cons_of_mem _ List.mem_cons_self))).1.r.cell 7 _ rfl
      have bc8 := (S.out.box (X2, [.slice bq1 x.regs.length bk1, .int .i64 x.pc, .slice bq2 x.mem.length bk2, .int .i64 x.save, .bool x.lets, .bool x.waits, .int .i64 x.halt, .slice bq3 x.ins.length bk3, .slice bq4 x.outs.length bk4, .int .i64 x.count], x) (List.mem_cons_of_mem _ (List.mem_cons_of_mem _ List.mem_cons_self))).1.r.cell 8 _ rfl
      have bc9 := (S.out.box (X2, [.slice bq1 x.regs.length bk1, .int .i64 x.pc, .slice bq2 x.mem.length bk2, .int .i64 x.save, .bool x.lets, .bool x.waits, .int .i64 x.halt, .slice bq3 x.ins.length bk3, .slice bq4 x.outs.length bk4, .int .i64 x.count], x) (List.mem_cons_of_mem _ (List.mem_cons_of_mem _ List.mem_cons_self))).1.r.cell 9 _ rfl
      go_wp2_with fail
      clear bc0 bc1 bc2 bc3 bc4 bc5 bc6 bc7 bc8 bc9
      generalize hZ : wv5.heap.size = X4 at S ⊢
      clear hZ
      generalize wv5.alloc (.cells #[.slice dq1 x.regs.length dk1, .int .i64 x.pc, .slice dq2 x.mem.length dk2, .int .i64 x.save, .bool x.lets, .bool x.waits, .int .i64 x.halt, .slice dq3 x.ins.length dk3, .slice dq4 x.outs.length dk4, .int .i64 x.count] 25) = wv6 at S ⊢
      refine (La.laMach x _ _ _ (S.out.box (X2, [.slice bq1 x.regs.length bk1, .int .i64 x.pc, .slice bq2 x.mem.length bk2, .int .i64 x.save, .bool x.lets, .bool x.waits, .int .i64 x.halt, .slice bq3 x.ins.length bk3, .slice bq4 x.outs.length bk4, .int .i64 x.count], x) (List.mem_cons_of_mem _ (List.mem_cons_of_mem _ List.mem_cons_self))).2 (S.out.box (X4, [.slice dq1 x.regs.length dk1, .int .i64 x.pc, .slice dq2 x.mem.length dk2, .int .i64 x.save, .bool x.lets, .bool x.waits, .int .i64 x.halt, .slice dq3 x.ins.length dk3, .slice dq4 x.outs.length dk4, .int .i64 x.count], x) List.mem_cons_self).2).mono ?_
      rintro e uu ⟨rfl, hb⟩
      have S2 := hide (S.out.below hb)
      clear S hb
      have S := S2
      clear S2
      have FIN := hide S.out.bw
      clear S
      go_wp2
      go_ret
      exact ⟨rfl, FIN.out⟩
    · skip
      obtain ⟨bq1, bq2, bq3, bq4, bk1, bk2, bk3, bk4, rfl⟩ := rforms M2
      have S2 := hide (Sit.add S.out M2)
      simp only [mv] at M2 S2 ⊢
      clear S M2
      have S := S2
      clear S2
      have ac0 := (S.out.box (X1, [.slice aq1 m.regs.length ak1, .int .i64 m.pc, .slice aq2 m.mem.length ak2, .int .i64 m.save, .bool m.lets, .bool m.waits, .int .i64 m.halt, .slice aq3 m.ins.length ak3, .slice aq4 m.outs.length ak4, .int .i64 m.count], m) (List.mem_cons_of_mem _ List.mem_cons_self)).1.r.cell 0 _ rfl
      have ac1 := (S.out.box (X1, [.slice aq1 m.regs.length ak1, .int .i64 m.pc, .slice aq2 m.mem.length ak2, .int .i64 m.save, .bool m.lets, .bool m.waits, .int .i64 m.halt, .slice aq3 m.ins.length ak3, .slice aq4 m.outs.length ak4, .int .i64 m.count], m) (List.mem_cons_of_mem _ List.mem_cons_self)).1.r.cell 1 _ rfl
      have ac2 := (S.out.box (X1, [.slice aq1 m.regs.length ak1, .int .i64 m.pc, .slice aq2 m.mem.length ak2, .int .i64 m.save, .bool m.lets, .bool m.waits, .int .i64 m.halt, .slice aq3 m.ins.length ak3, .slice aq4 m.outs.length ak4, .int .i64 m.count], m) (List.mem_cons_of_mem _ List.mem_cons_self)).1.r.cell 2 _ rfl
      have ac3 := (S.out.box (X1, [.slice aq1 m.regs.length ak1, .int .i64 m.pc, .slice aq2 m.mem.length ak2, .int .i64 m.save, .bool m.lets, .bool m.waits, .int .i64 m.halt, .slice aq3 m.ins.length ak3, .slice aq4 m.outs.length ak4, .int .i64 m.count], m) (List.mem_cons_of_mem _ List.mem_cons_self)).1.r.cell 3 _ rfl
      have ac4 := (S.out.box (X1, [.slice aq1 m.regs.length ak1, .int .i64 m.pc, .slice aq2 m.mem.length ak2, .int .i64 m.save, .bool m.lets, .bool m.waits, .int .i64 m.halt, .slice aq3 m.ins.length ak3, .slice aq4 m.outs.length ak4, .int .i64 m.count], m) (List.mem_cons_of_mem _ List.mem_cons_self)).1.r.cell 4 _ rfl
      have ac5 := (S.out.box (X1, [.slice aq1 m.regs.length ak1, .int .i64 m.pc, .slice aq2 m.mem.length ak2, .int .i64 m.save, .bool m.lets, .bool m.waits, .int .i64 m.halt, .slice aq3 m.ins.length ak3, .slice aq4 m.outs.length ak4, .int .i64 m.count], m) (List.mem_cons_of_mem _ List.mem_cons_self)).1.r.cell 5 _ rfl
      have ac6 := (S.out.box (X1, [.slice aq1 m.regs.length ak1, .int .i64 m.pc, .slice aq2 m.mem.length ak2, .int .i64 m.save, .bool m.lets, .bool m.waits, .int .i64 m.halt, .slice aq3 m.ins.length ak3, .slice aq4 m.outs.length ak4, .int .i64 m.count], m) (List.mem_cons_of_mem _ List.mem_cons_self)).1.r.cell 6 _ rfl
      have ac7 := (S.out.box (X1, [.slice aq1 m.regs.length ak1, .int .i64 m.pc, .slice aq2 m.mem.length ak2, .int .i64 m.save, .bool m.lets, .bool m.waits, .int .i64 m.halt, .slice aq3 m.ins.length ak3, .slice aq4 m.outs.length ak4, .int .i64 m.count], m) (List.mem_cons_of_mem _ List.mem_cons_self)).1.r.cell 7 _ rfl
      have ac8 := (S.out.box (X1, [.slice aq1 m.regs.length ak1, .int .i64 m.pc, .slice aq2 m.mem.length ak2, .int .i64 m.save, .bool m.lets, .bool m.waits, .int .i64 m.halt, .slice aq3 m.ins.length ak3, .slice aq4 m.outs.length ak4, .int .i64 m.count], m) (List.mem_cons_of_mem _ List.mem_cons_self)).1.r.cell 8 _ rfl
      have ac9 := (S.out.box (X1, [.slice aq1 m.regs.length ak1, .int .i64 m.pc, .slice aq2 m.mem.length ak2, .int .i64 m.save, .bool m.lets, .bool m.waits, .int .i64 m.halt, .slice aq3 m.ins.length ak3, .slice aq4 m.outs.length ak4, .int .i64 m.count], m) (List.mem_cons_of_mem _ List.mem_cons_self)).1.r.cell 9 _ rfl
      have ma1 := fun ob => ((S.out.box (X1, [.slice aq1 m.regs.length ak1, .int .i64 m.pc, .slice aq2 m.mem.length ak2, .int .i64 m.save, .bool m.lets, .bool m.waits, .int .i64 m.halt, .slice aq3 m.ins.length ak3, .slice aq4 m.outs.length ak4, .int .i64 m.count], m) (List.mem_cons_of_mem _ List.mem_cons_self)).1.r.alloc ob).cell 1 _ rfl
      have ma4 := fun ob => ((S.out.box (X1, [.slice aq1 m.regs.length ak1, .int .i64 m.pc, .slice aq2 m.mem.length ak2, .int .i64 m.save, .bool m.lets, .bool m.waits, .int .i64 m.halt, .slice aq3 m.ins.length ak3, .slice aq4 m.outs.length ak4, .int .i64 m.count], m) (List.mem_cons_of_mem _ List.mem_cons_self)).1.r.alloc ob).cell 4 _ rfl
      have ma5 := fun ob => ((S.out.box (X1, [.slice aq1 m.regs.length ak1, .int .i64 m.pc, .slice aq2 m.mem.length ak2, .int .i64 m.save, .bool m.lets, .bool m.waits, .int .i64 m.halt, .slice aq3 m.ins.length ak3, .slice aq4 m.outs.length ak4, .int .i64 m.count], m) (List.mem_cons_of_mem _ List.mem_cons_self)).1.r.alloc ob).cell 5 _ rfl
      go_wp2_with fail
      clear ma1 ma4 ma5
      clear ac0 ac1 ac2 ac3 ac4 ac5 ac6 ac7 ac8 ac9
      have hsz : (wv3.alloc (.cells #[.slice bq1 x.regs.length bk1, .int .i64 x.pc, .slice bq2 x.mem.length bk2, .int .i64 x.save, .bool x.lets, .bool x.waits, .int .i64 x.halt, .slice bq3 x.ins.length bk3, .slice bq4 x.outs.length bk4, .int .i64 x.count] 25)).heap.size = wv3.heap.size + 1 := by simp
      generalize hZ : wv3.heap.size = X2 at S hsz ⊢
      clear hZ
      generalize wv3.alloc (.cells #[.slice bq1 x.regs.length bk1, .int .i64 x.pc, .slice bq2 x.mem.length bk2, .int .i64 x.save, .bool x.lets, .bool x.waits, .int .i64 x.halt, .slice bq3 x.ins.length bk3, .slice bq4 x.outs.length bk4, .int .i64 x.count] 25) = wv4 at S hsz ⊢
      have RY := RMach.plain (m := m) (r := .slice aq1 m.regs.length ak1) (e := .slice aq2 m.mem.length ak2) (i := .slice aq3 m.ins.length ak3) (o := .slice aq4 m.outs.length ak4) (S.out.box (X1, [.slice aq1 m.regs.length ak1, .int .i64 m.pc, .slice aq2 m.mem.length ak2, .int .i64 m.save, .bool m.lets, .bool m.waits, .int .i64 m.halt, .slice aq3 m.ins.length ak3, .slice aq4 m.outs.length ak4, .int .i64 m.count], m) (List.mem_cons_of_mem _ List.mem_cons_self)).2 m.pc m.save m.halt m.count false true
      have eS : sampleM m true = ⟨m.regs, m.pc, m.mem, m.save, false, true, m.halt, m.ins, m.outs, m.count⟩ := by
        unfold sampleM
        rw [hw, hl]
        rfl
      simp only [mv] at RY
      rw [← eS, ES.out] at RY
      have RY2 : RMach wv4 [.slice aq1 m.regs.length ak1, .int .i64 m.pc, .slice aq2 m.mem.length ak2, .int .i64 m.save, .bool false, .bool true, .int .i64 m.halt, .slice aq3 m.ins.length ak3, .slice aq4 m.outs.length ak4, .int .i64 m.count] sm := RY
      have S2 := hide (Sit.add S.out RY2)
      rw [hsz] at S2
      clear S RY RY2 eS hsz hw hl
      have S := S2
      clear S2
      generalize wv4.alloc (.cells #[.slice aq1 m.regs.length ak1, .int .i64 m.pc, .slice aq2 m.mem.length ak2, .int .i64 m.save, .bool false, .bool true, .int .i64 m.halt, .slice aq3 m.ins.length ak3, .slice aq4 m.outs.length ak4, .int .i64 m.count] 25) = yw at S ⊢
      refine (MchI.mchStep sm false _ _ (S.out.box ((X2 + 1), [.slice aq1 m.regs.length ak1, .int .i64 m.pc, .slice aq2 m.mem.length ak2, .int .i64 m.save, .bool false, .bool true, .int .i64 m.halt, .slice aq3 m.ins.length ak3, .slice aq4 m.outs.length ak4, .int .i64 m.count], sm) List.mem_cons_self).2 NS.out.mid).mono ?_
      rintro e wv5 ⟨c3, rfl, M3, hb⟩
      have M4 := M3.read
      rw [STX.out] at M4
      clear M3
      have S2 := hide (S.out.below hb)
      clear S
      have S := S2
      clear S2
      clear hb
      obtain ⟨dq1, dq2, dq3, dq4, dk1, dk2, dk3, dk4, rfl⟩ := rforms M4
      have S2 := hide (Sit.add S.out M4)
      simp only [mv] at M4 S2 ⊢
      clear S M4
      have S := S2
      clear S2
      have bc0 := (S.out.box (X2, [.slice bq1 x.regs.length bk1, .int .i64 x.pc, .slice bq2 x.mem.length bk2, .int .i64 x.save, .bool x.lets, .bool x.waits, .int .i64 x.halt, .slice bq3 x.ins.length bk3, .slice bq4 x.outs.length bk4, .int .i64 x.count], x) (List.mem_cons_of_mem _ (List.mem_cons_of_mem _ List.mem_cons_self))).1.r.cell 0 _ rfl
      have bc1 := (S.out.box (X2, [.slice bq1 x.regs.length bk1, .int .i64 x.pc, .slice bq2 x.mem.length bk2, .int .i64 x.save, .bool x.lets, .bool x.waits, .int .i64 x.halt, .slice bq3 x.ins.length bk3, .slice bq4 x.outs.length bk4, .int .i64 x.count], x) (List.mem_cons_of_mem _ (List.mem_cons_of_mem _ List.mem_cons_self))).1.r.cell 1 _ rfl
      have bc2 := (S.out.box (X2, [.slice bq1 x.regs.length bk1, .int .i64 x.pc, .slice bq2 x.mem.length bk2, .int .i64 x.save, .bool x.lets, .bool x.waits, .int .i64 x.halt, .slice bq3 x.ins.length bk3, .slice bq4 x.outs.length bk4, .int .i64 x.count], x) (List.mem_cons_of_mem _ (List.mem_cons_of_mem _ List.mem_cons_self))).1.r.cell 2 _ rfl
      have bc3 := (S.out.box (X2, [.slice bq1 x.regs.length bk1, .int .i64 x.pc, .slice bq2 x.mem.length bk2, .int .i64 x.save, .bool x.lets, .bool x.waits, .int .i64 x.halt, .slice bq3 x.ins.length bk3, .slice bq4 x.outs.length bk4, .int .i64 x.count], x) (List.mem_cons_of_mem _ (List.mem_cons_of_mem _ List.mem_cons_self))).1.r.cell 3 _ rfl
      have bc4 := (S.out.box (X2, [.slice bq1 x.regs.length bk1, .int .i64 x.pc, .slice bq2 x.mem.length bk2, .int .i64 x.save, .bool x.lets, .bool x.waits, .int .i64 x.halt, .slice bq3 x.ins.length bk3, .slice bq4 x.outs.length bk4, .int .i64 x.count], x) (List.mem_cons_of_mem _ (List.mem_cons_of_mem _ List.mem_cons_self))).1.r.cell 4 _ rfl
      have bc5 := (S.out.box (X2, [.slice bq1 x.regs.length bk1, .int .i64 x.pc, .slice bq2 x.mem.length bk2, .int .i64 x.save, .bool x.lets, .bool x.waits, .int .i64 x.halt, .slice bq3 x.ins.length bk3, .slice bq4 x.outs.length bk4, .int .i64 x.count], x) (List.mem_cons_of_mem _ (List.mem_cons_of_mem _ List.mem_cons_self))).1.r.cell 5 _ rfl
      have bc6 := (S.out.box (X2, [.slice bq1 x.regs.length bk1, .int .i64 x.pc, .slice bq2 x.mem.length bk2, .int .i64 x.save, .bool x.lets, .bool x.waits, .int .i64 x.halt, .slice bq3 x.ins.length bk3, .slice bq4 x.outs.length bk4, .int .i64 x.count], x) (List.mem_cons_of_mem _ (List.mem_cons_of_mem _ List.mem_cons_self))).1.r.cell 6 _ rfl
      have bc7 := (S.out.box (X2, [.slice bq1 x.regs.length bk1, .int .i64 x.pc, .slice bq2 x.mem.length bk2, .int .i64 x.save, .bool x.lets, .bool x.waits, .int .i64 x.halt, .slice bq3 x.ins.length bk3, .slice bq4 x.outs.length bk4, .int .i64 x.count], x) (List.mem_cons_of_mem _ (List.mem_cons_of_mem _ List.mem_cons_self))).1.r.cell 7 _ rfl
      have bc8 := (S.out.box (X2, [.slice bq1 x.regs.length bk1, .int .i64 x.pc, .slice bq2 x.mem.length bk2, .int .i64 x.save, .bool x.lets, .bool x.waits, .int .i64 x.halt, .slice bq3 x.ins.length bk3, .slice bq4 x.outs.length bk4, .int .i64 x.count], x) (List.mem_cons_of_mem _ (List.mem_cons_of_mem _ List.mem_cons_self))).1.r.cell 8 _ rfl
      have bc9 := (S.out.box (X2, [.slice bq1 x.regs.length bk1, .int .i64 x.pc, .slice bq2 x.mem.length bk2, .int .i64 x.save, .bool x.lets, .bool x.waits, .int .i64 x.halt, .slice bq3 x.ins.length bk3, .slice bq4 x.outs.length bk4, .int .i64 x.count], x) (List.mem_cons_of_mem _ (List.mem_cons_of_mem _ List.mem_cons_self))).1.r.cell 9 _ rfl
      go_wp2_with fail
      clear bc0 bc1 bc2 bc3 bc4 bc5 bc6 bc7 bc8 bc9
      generalize hZ : wv5.heap.size = X4 at S ⊢
      clear hZ
      generalize wv5.alloc (.cells #[.slice dq1 x.regs.length dk1, .int .i64 x.pc, .slice dq2 x.mem.length dk2, .int .i64 x.save, .bool x.lets, .bool x.waits, .int .i64 x.halt, .slice dq3 x.ins.length dk3, .slice dq4 x.outs.length dk4, .int .i64 x.count] 25) = wv6 at S ⊢
      refine (La.laMach x _ _ _ (S.out.box (X2, [.slice bq1 x.regs.length bk1, .int .i64 x.pc, .slice bq2 x.mem.length bk2, .int .i64 x.save, .bool x.lets, .bool x.waits, .int .i64 x.halt, .slice bq3 x.ins.length bk3, .slice bq4 x.outs.length bk4, .int .i64 x.count], x) (List.mem_cons_of_mem _ (List.mem_cons_of_mem _ List.mem_cons_self))).2 (S.out.box (X4, [.slice dq1 x.regs.length dk1, .int .i64 x.pc, .slice dq2 x.mem.length dk2, .int .i64 x.save, .bool x.lets, .bool x.waits, .int .i64 x.halt, .slice dq3 x.ins.length dk3, .slice dq4 x.outs.length dk4, .int .i64 x.count], x) List.mem_cons_self).2).mono ?_
      rintro e uu ⟨rfl, hb⟩
      have S2 := hide (S.out.below hb)
      clear S hb
      have S := S2
      clear S2
      have FIN := hide S.out.bw
      clear S
      go_wp2
      go_ret
      exact ⟨rfl, FIN.out⟩
    · skip
      obtain ⟨bq1, bq2, bq3, bq4, bk1, bk2, bk3, bk4, rfl⟩ := rforms M2
      have S2 := hide (Sit.add S.out M2)
      simp only [mv] at M2 S2 ⊢
      clear S M2
      have S := S2
      clear S2
      have ac0 := (S.out.box (X1, [.slice aq1 m.regs.length ak1, .int .i64 m.pc, .slice aq2 m.mem.length ak2, .int .i64 m.save, .bool m.lets, .bool m.waits, .int .i64 m.halt, .slice aq3 m.ins.length ak3, .slice aq4 m.outs.length ak4, .int .i64 m.count], m) (List.mem_cons_of_mem _ List.mem_cons_self)).1.r.cell 0 _ rfl
      have ac1 := (S.out.box (X1, [.slice aq1 m.regs.length ak1, .int .i64 m.pc, .slice aq2 m.mem.length ak2, .int .i64 m.save, .bool m.lets, .bool m.waits, .int .i64 m.halt, .slice aq3 m.ins.length ak3, .slice aq4 m.outs.length ak4, .int .i64 m.count], m) (List.mem_cons_of_mem _ List.mem_cons_self)).1.r.cell 1 _ rfl
      have ac2 := (S.out.box (X1, [.slice aq1 m.regs.length ak1, .int .i64 m.pc, .slice aq2 m.mem.length ak2, .int .i64 m.save, .bool m.lets, .bool m.waits, .int .i64 m.halt, .slice aq3 m.ins.length ak3, .slice aq4 m.outs.length ak4, .int .i64 m.count], m) (List.mem_cons_of_mem _ List.mem_cons_self)).1.r.cell 2 _ rfl
      have ac3 := (S.out.box (X1, [.slice aq1 m.regs.length ak1, .int .i64 m.pc, .slice aq2 m.mem.length ak2, .int .i64 m.save, .bool m.lets, .bool m.waits, .int .i64 m.halt, .slice aq3 m.ins.length ak3, .slice aq4 m.outs.length ak4, .int .i64 m.count], m) (List.mem_cons_of_mem _ List.mem_cons_self)).1.r.cell 3 _ rfl
      have ac4 := (S.out.box (X1, [.slice aq1 m.regs.length ak1, .int .i64 m.pc, .slice aq2 m.mem.length ak2, .int .i64 m.save, .bool m.lets, .bool m.waits, .int .i64 m.halt, .slice aq3 m.ins.length ak3, .slice aq4 m.outs.length ak4, .int .i64 m.count], m) (List.mem_cons_of_mem _ List.mem_cons_self)).1.r.cell 4 _ rfl
      have ac5 := (S.out.box (X1, [.slice aq1 m.regs.length ak1, .int .i64 m.pc, .slice aq2 m.mem.length ak2, .int .i64 m.save, .bool m.lets, .bool m.waits, .int .i64 m.halt, .slice aq3 m.ins.length ak3, .slice aq4 m.outs.length ak4, .int .i64 m.count], m) (List.mem_cons_of_mem _ List.mem_cons_self)).1.r.cell 5 _ rfl
      have ac6 := (S.out.box (X1, [.slice aq1 m.regs.length ak1, .int .i64 m.pc, .slice aq2 m.mem.length ak2, .int .i64 m.save, .bool m.lets, .bool m.waits, .int .i64 m.halt, .slice aq3 m.ins.length ak3, .slice aq4 m.outs.length ak4, .int .i64 m.count], m) (List.mem_cons_of_mem _ List.mem_cons_self)).1.r.cell 6 _ rfl
      have ac7 := (S.out.box (X1, [.slice aq1 m.regs.length ak1, .int .i64 m.pc, .slice aq2 m.mem.length ak2, .int .i64 m.save, .bool m.lets, .bool m.waits, .int .i64 m.halt, .slice aq3 m.ins.length ak3, .slice aq4 m.outs.length ak4, .int .i64 m.count], m) (List.mem_cons_of_mem _ List.mem_cons_self)).1.r.cell 7 _ rfl
      have ac8 := (S.out.box (X1, [.slice aq1 m.regs.length ak1, .int .i64 m.pc, .slice aq2 m.mem.length ak2, .int .i64 m.save, .bool m.lets, .bool m.waits, .int .i64 m.halt, .slice aq3 m.ins.length ak3, .slice aq4 m.outs.length ak4, .int .i64 m.count], m) (List.mem_cons_of_mem _ List.mem_cons_self)).1.r.cell 8 _ rfl
      have ac9 := (S.out.box (X1, [.slice aq1 m.regs.length ak1, .int .i64 m.pc, .slice aq2 m.mem.length ak2, .int .i64 m.save, .bool m.lets, .bool m.waits, .int .i64 m.halt, .slice aq3 m.ins.length ak3, .slice aq4 m.outs.length ak4, .int .i64 m.count], m) (List.mem_cons_of_mem _ List.mem_cons_self)).1.r.cell 9 _ rfl
      have ma1 := fun ob => ((S.out.box (X1, [.slice aq1 m.regs.length ak1, .int .i64 m.pc, .slice aq2 m.mem.length ak2, .int .i64 m.save, .bool m.lets, .bool m.waits, .int .i64 m.halt, .slice aq3 m.ins.length ak3, .slice aq4 m.outs.length ak4, .int .i64 m.count], m) (List.mem_cons_of_mem _ List.mem_cons_self)).1.r.alloc ob).cell 1 _ rfl
      have ma4 := fun ob => ((S.out.box (X1, [.slice aq1 m.regs.length ak1, .int .i64 m.pc, .slice aq2 m.mem.length ak2, .int .i64 m.save, .bool m.lets, .bool m.waits, .int .i64 m.halt, .slice aq3 m.ins.length ak3, .slice aq4 m.outs.length ak4, .int .i64 m.count], m) (List.mem_cons_of_mem _ List.mem_cons_self)).1.r.alloc ob).cell 4 _ rfl
      have ma5 := fun ob => ((S.out.box (X1, [.slice aq1 m.regs.length ak1, .int .i64 m.pc, .slice aq2 m.mem.length ak2, .int .i64 m.save, .bool m.lets, .bool m.waits, .int .i64 m.halt, .slice aq3 m.ins.length ak3, .slice aq4 m.outs.length ak4, .int .i64 m.count], m) (List.mem_cons_of_mem _ List.mem_cons_self)).1.r.alloc ob).cell 5 _ rfl
      go_wp2_with fail
      clear ma1 ma4 ma5
      clear ac0 ac1 ac2 ac3 ac4 ac5 ac6 ac7 ac8 ac9
      have hsz : (wv3.alloc (.cells #[.slice bq1 x.regs.length bk1, .int .i64 x.pc, .slice bq2 x.mem.length bk2, .int .i64 x.save, .bool x.lets, .bool x.waits, .int .i64 x.halt, .slice bq3 x.ins.length bk3, .slice bq4 x.outs.length bk4, .int .i64 x.count] 25)).heap.size = wv3.heap.size + 1 := by simp
      generalize hZ : wv3.heap.size = X2 at S hsz ⊢
      clear hZ
      generalize wv3.alloc (.cells #[.slice bq1 x.regs.length bk1, .int .i64 x.pc, .slice bq2 x.mem.length bk2, .int .i64 x.save, .bool x.lets, .bool x.waits, .int .i64 x.halt, .slice bq3 x.ins.length bk3, .slice bq4 x.outs.length bk4, .int .i64 x.count] 25) = wv4 at S hsz ⊢
      have RY := RMach.plain (m := m) (r := .slice aq1 m.regs.length ak1) (e := .slice aq2 m.mem.length ak2) (i := .slice aq3 m.ins.length ak3) (o := .slice aq4 m.outs.length ak4) (S.out.box (X1, [.slice aq1 m.regs.length ak1, .int .i64 m.pc, .slice aq2 m.mem.length ak2, .int .i64 m.save, .bool m.lets, .bool m.waits, .int .i64 m.halt, .slice aq3 m.ins.length ak3, .slice aq4 m.outs.length ak4, .int .i64 m.count], m) (List.mem_cons_of_mem _ List.mem_cons_self)).2 48 m.pc m.halt m.count false false
      have eS : sampleM m true = ⟨m.regs, 48, m.mem, m.pc, false, false, m.halt, m.ins, m.outs, m.count⟩ := by
        unfold sampleM
        rw [hw, hl]
        rfl
      simp only [mv] at RY
      rw [← eS, ES.out] at RY
      have RY2 : RMach wv4 [.slice aq1 m.regs.length ak1, .int .i64 48, .slice aq2 m.mem.length ak2, .int .i64 m.pc, .bool false, .bool false, .int .i64 m.halt, .slice aq3 m.ins.length ak3, .slice aq4 m.outs.length ak4, .int .i64 m.count] sm := RY
      have S2 := hide (Sit.add S.out RY2)
      rw [hsz] at S2
      clear S RY RY2 eS hsz hw hl
      have S := S2
      clear S2
      generalize wv4.alloc (.cells #[.slice aq1 m.regs.length ak1, .int .i64 48, .slice aq2 m.mem.length ak2, .int .i64 m.pc, .bool false, .bool false, .int .i64 m.halt, .slice aq3 m.ins.length ak3, .slice aq4 m.outs.length ak4, .int .i64 m.count] 25) = yw at S ⊢
      refine (MchI.mchStep sm false _ _ (S.out.box ((X2 + 1), [.slice aq1 m.regs.length ak1, .int .i64 48, .slice aq2 m.mem.length ak2, .int .i64 m.pc, .bool false, .bool false, .int .i64 m.halt, .slice aq3 m.ins.length ak3, .slice aq4 m.outs.length ak4, .int .i64 m.count], sm) List.mem_cons_self).2 NS.out.mid).mono ?_
      rintro e wv5 ⟨c3, rfl, M3, hb⟩
      have M4 := M3.read
      rw [STX.out] at M4
      clear M3
      have S2 := hide (S.out.below hb)
      clear S
      have S := S2
      clear S2
      clear hb
      obtain ⟨dq1, dq2, dq3, dq4, dk1, dk2, dk3, dk4, rfl⟩ := rforms M4
      have S2 := hide (Sit.add S.out M4)
      simp only [mv] at M4 S2 ⊢
      clear S M4
      have S := S2
      clear S2
      have bc0 := (S.out.box (X2, [.slice bq1 x.regs.length bk1, .int .i64 x.pc, .slice bq2 x.mem.length bk2, .int .i64 x.save, .bool x.lets, .bool x.waits, .int .i64 x.halt, .slice bq3 x.ins.length bk3, .slice bq4 x.outs.length bk4, .int .i64 x.count], x) (List.mem_cons_of_mem _ (List.mem_cons_of_mem _ List.mem_cons_self))).1.r.cell 0 _ rfl
      have bc1 := (S.out.box (X2, [.slice bq1 x.regs.length bk1, .int .i64 x.pc, .slice bq2 x.mem.length bk2, .int .i64 x.save, .bool x.lets, .bool x.waits, .int .i64 x.halt, .slice bq3 x.ins.length bk3, .slice bq4 x.outs.length bk4, .int .i64 x.count], x) (List.mem_cons_of_mem _ (List.mem_cons_of_mem _ List.mem_cons_self))).1.r.cell 1 _ rfl
      have bc2 := (S.out.box (X2, [.slice bq1 x.regs.length bk1, .int .i64 x.pc, .slice bq2 x.mem.length bk2, .int .i64 x.save, .bool x.lets, .bool x.waits, .int .i64 x.halt, .slice bq3 x.ins.length bk3, .slice bq4 x.outs.length bk4, .int .i64 x.count], x) (List.mem_cons_of_mem _ (List.mem_cons_of_mem _ List.mem_cons_self))).1.r.cell 2 _ rfl
      have bc3 := (S.out.box (X2, [.slice bq1 x.regs.length bk1, .int .i64 x.pc, .slice bq2 x.mem.length bk2, .int .i64 x.save, .bool x.lets, .bool x.waits, .int .i64 x.halt, .slice bq3 x.ins.length bk3, .slice bq4 x.outs.length bk4, .int .i64 x.count], x) (List.mem_cons_of_mem _ (List.mem_cons_of_mem _ List.mem_cons_self))).1.r.cell 3 _ rfl
      have bc4 := (S.out.box (X2, [.slice bq1 x.regs.length bk1, .int .i64 x.pc, .slice bq2 x.mem.length bk2, .int .i64 x.save, .bool x.lets, .bool x.waits, .int .i64 x.halt, .slice bq3 x.ins.length bk3, .slice bq4 x.outs.length bk4, .int .i64 x.count], x) (List.mem_cons_of_mem _ (List.mem_cons_of_mem _ List.mem_cons_self))).1.r.cell 4 _ rfl
      have bc5 := (S.out.box (X2, [.slice bq1 x.regs.length bk1, .int .i64 x.pc, .slice bq2 x.mem.length bk2, .int .i64 x.save, .bool x.lets, .bool x.waits, .int .i64 x.halt, .slice bq3 x.ins.length bk3, .slice bq4 x.outs.length bk4, .int .i64 x.count], x) (List.mem_cons_of_mem _ (List.mem_cons_of_mem _ List.mem_cons_self))).1.r.cell 5 _ rfl
      have bc6 := (S.out.box (X2, [.slice bq1 x.regs.length bk1, .int .i64 x.pc, .slice bq2 x.mem.length bk2, .int .i64 x.save, .bool x.lets, .bool x.waits, .int .i64 x.halt, .slice bq3 x.ins.length bk3, .slice bq4 x.outs.length bk4, .int .i64 x.count], x) (List.mem_cons_of_mem _ (List.mem_cons_of_mem _ List.mem_cons_self))).1.r.cell 6 _ rfl
      have bc7 := (S.out.box (X2, [.slice bq1 x.regs.length bk1, .int .i64 x.pc, .slice bq2 x.mem.length bk2, .int .i64 x.save, .bool x.lets, .bool x.waits, .int .i64 x.halt, .slice bq3 x.ins.length bk3, .slice bq4 x.outs.length bk4, .int .i64 x.count], x) (List.mem_cons_of_mem _ (List.mem_cons_of_mem _ List.mem_cons_self))).1.r.cell 7 _ rfl
      have bc8 := (S.out.box (X2, [.slice bq1 x.regs.length bk1, .int .i64 x.pc, .slice bq2 x.mem.length bk2, .int .i64 x.save, .bool x.lets, .bool x.waits, .int .i64 x.halt, .slice bq3 x.ins.length bk3, .slice bq4 x.outs.length bk4, .int .i64 x.count], x) (List.mem_cons_of_mem _ (List.mem_cons_of_mem _ List.mem_cons_self))).1.r.cell 8 _ rfl
      have bc9 := (S.out.box (X2, [.slice bq1 x.regs.length bk1, .int .i64 x.pc, .slice bq2 x.mem.length bk2, .int .i64 x.save, .bool x.lets, .bool x.waits, .int .i64 x.halt, .slice bq3 x.ins.length bk3, .slice bq4 x.outs.length bk4, .int .i64 x.count], x) (List.mem_cons_of_mem _ (List.mem_cons_of_mem _ List.mem_cons_self))).1.r.cell 9 _ rfl
      go_wp2_with fail
      clear bc0 bc1 bc2 bc3 bc4 bc5 bc6 bc7 bc8 bc9
      generalize hZ : wv5.heap.size = X4 at S ⊢
      clear hZ
      generalize wv5.alloc (.cells #[.slice dq1 x.regs.length dk1, .int .i64 x.pc, .slice dq2 x.mem.length dk2, .int .i64 x.save, .bool x.lets, .bool x.waits, .int .i64 x.halt, .slice dq3 x.ins.length dk3, .slice dq4 x.outs.length dk4, .int .i64 x.count] 25) = wv6 at S ⊢
      refine (La.laMach x _ _ _ (S.out.box (X2, [.slice bq1 x.regs.length bk1, .int .i64 x.pc, .slice bq2 x.mem.length bk2, .int .i64 x.save, .bool x.lets, .bool x.waits, .int .i64 x.halt, .slice bq3 x.ins.length bk3, .slice bq4 x.outs.length bk4, .int .i64 x.count], x) (List.mem_cons_of_mem _ (List.mem_cons_of_mem _ List.mem_cons_self))).2 (S.out.box (X4, [.slice dq1 x.regs.length dk1, .int .i64 x.pc, .slice dq2 x.mem.length dk2, .int .i64 x.save, .bool x.lets, .bool x.waits, .int .i64 x.halt, .slice dq3 x.ins.length dk3, .slice dq4 x.outs.length dk4, .int .i64 x.count], x) List.mem_cons_self).2).mono ?_
      rintro e uu ⟨rfl, hb⟩
      have S2 := hide (S.out.below hb)
      clear S hb
      have S := S2
      clear S2
      have FIN := hide S.out.bw
      clear S
      go_wp2
      go_ret
      exact ⟨rfl, FIN.out⟩

set_option maxRecDepth 100000 in
theorem lifted (os : Os) (started : os.Started) (H : Type) (enc : TypeId × Value → H) :
    ReturnsInHanded {} Tryz.checked os 5 .any (Rows.fnMchIrqSpec.pre6 enc Tryz.prog Tryz.f5 Rows.fnMchIrqRow.domain false) (Rows.fnMchIrqSpec.post enc Tryz.prog Tryz.f5 false true false false) := by
  refine returnsInHanded_of_change (C := Tryz.checked) own started (by kernel_rfl) Tryz.func5
    (ChangeSpec.witness6 (enc := enc) (C := Tryz.checked) false ⟨#[], #[.slice none 0 0], []⟩ 8 (by kernel_rfl) (by kernel_rfl) (by kernel_rfl) (by kernel_rfl)) ?_
  intro W base args ds gs before hval0 hW hcnd _
  have hval : ∀ (j : Nat) t v, Tryz.f5.params[j]? = some t → args[j]? = some v → Value.okWide Tryz.prog W .any base t v := hval0
  have hW' := hW
  obtain ⟨p, q, hA0, hV, rfl, hfz, hnd⟩ := hW
  have hA : DataW.TrodAll enc Tryz.prog W 0 (fun _ => true) true Tryz.f5.params.toList args.toList ds p := hA0
  rw [Tryz.params5] at hA hval
  obtain ⟨v0, vs0, d0, ds0, p0, q0, hargs, rfl, rfl, h0, r0⟩ := trodAll_cons hA
  obtain ⟨rfl, rfl, rfl⟩ := trodAll_nil r0
  obtain rfl : args = #[v0] := by cases args; simp_all
  obtain ⟨rfl, rfl⟩ := trodVars_none hV
  obtain ⟨a0, len0, cap0, rfl⟩ := okWide_slice Tryz.underlying22 (hval 0 22 v0 rfl rfl)
  have k0 := h0
  have lt0 : ∀ x ∈ p0, x.block < W.heap.size := by obtain ⟨m, hm⟩ := k0; exact DataW.trod_lt m _ _ _ hm
  obtain ⟨z0, w0⟩ : ∃ zs, IsRow .u8 W a0 len0 cap0 zs := by
    obtain ⟨fuel, hf⟩ := h0
    rcases open_ints Tryz.underlying22 Tryz.underlying5 (by kernel_rfl) hf with ⟨hcs, _⟩ | ⟨x, l, c, zs, hcs, _, hl, hm, hz, _, hcell, hwz⟩
    · simp [Value.cells] at hcs
      obtain ⟨rfl, rfl, rfl⟩ := hcs
      exact ⟨[], .inl ⟨rfl, rfl, rfl, rfl⟩⟩
    · simp [Value.cells] at hcs
      obtain ⟨rfl, rfl, rfl⟩ := hcs
      exact ⟨zs, .inr ⟨_, rfl, hl, hm, by simpa using hz, hcell, hwz⟩⟩
  clear hA0 hval0
  refine (walk a0 len0 cap0 z0 W w0).mono fun e W' ⟨he, bel⟩ => ?_
  subst he
  exact ⟨_, rfl, _, _, _, [], _, [], hW', trodAll_mk1 (shut_bool Tryz.underlying4 _), (trodAll_cons_mk (Below.trod laidOut (by kernel_rfl) (of_decide_eq_true (by kernel_rfl)) k0 bel lt0) trodAll_mk0), rfl, bel.frame _, fun h => by cases h⟩

theorem over : Rows.fnMchIrqRow.holds Tryz.pinned (OpenSpec.ofChange Rows.fnMchIrqSpec) :=
  OpenClaim.holds_of_wide 5 Tryz.f5 rfl rfl rfl rfl rfl rfl rfl ⟨rfl, rfl, rfl, rfl, rfl⟩ rfl rfl rfl rfl rfl (by kernel_rfl) Tryz.func5 (by kernel_rfl)
    (of_decide_eq_true (by kernel_rfl)) (by unfold Func.isWrapper; first | (rw [if_pos (by decide +kernel)]; kernel_rfl) | (rw [if_neg (by decide +kernel)]; exact ⟨rfl, rfl⟩))
    (fun os started H enc _ => lifted os started H enc)

theorem proved : Rows.FnMchIrqSaid := over
#print axioms proved
end Go.Proofs.YtnhpmbhphbphaaaGreat.fnMchIrq
