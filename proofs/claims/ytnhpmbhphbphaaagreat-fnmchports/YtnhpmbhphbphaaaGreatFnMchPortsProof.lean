/-
  At every code of bytes the law FnMchPorts returns true (P16: what went out stays out, and what comes in comes in order); no condition.
  The frame (the steps lifted, over, proved) is the guide's shell, written by its program; the walk and the lemmas ahead of it are mine.
-/
import Derived.Test.YtnhpmbhphbphaaaGreatRows
import Derived.WalkKit
import Derived.ProofKit
import Derived.OpenShut
import Derived.Test.YtnhpmbhphbphaaaGreatSit
import Derived.Test.YtnhpmbhphbphaaaGreatMpH
import Derived.ShutString
import Derived.ChangeOld
import Derived.Below
namespace Go.Proofs.YtnhpmbhphbphaaaGreat.fnMchPorts
open Go.ChangeShapes Go.WideShapes Go.ChangeAt Go.RowKit
open Go.ChangeMaps (open_string shut_string)
set_option linter.unusedVariables false

theorem own : ownKnob Tryz.prog.godebug = none := by kernel_rfl
theorem laidOut : laidOutB Tryz.prog = true := by kernel_rfl

def IsRow (k : IntKind) (w : World) (a : Option Addr) (len cap : Nat) (zs : List Int) : Prop :=
  (a = none ∧ len = 0 ∧ cap = 0 ∧ zs = []) ∨
  ∃ x, a = some x ∧ len ≤ cap ∧ cap ≤ maxLen ∧ zs.length = cap ∧ (∀ i, i < zs.length → w.cell? (x.add i) = some (.int k (zs.getD i 0))) ∧ ∀ n ∈ zs, (Lit.int k n).wf = true

open IntS Mch
set_option linter.unusedVariables false
set_option linter.unusedSimpArgs false

set_option maxRecDepth 8000 in
set_option maxHeartbeats 16000000 in
theorem walk (a0 : Option Addr) (len0 cap0 : Nat) (z0 : List Int) (w : World) (w0 : IsRow .u8 w a0 len0 cap0 z0) :
    Calls Tryz.prog 4 #[.slice a0 len0 cap0] w fun e w' => e = .returned (.bool true) ∧ Below w.heap.size w w' := by
  obtain ⟨hlc, hm, hc⟩ := Draw.code_row w a0 len0 cap0 z0 w0
  by_cases hl : 1048576 < len0
  · unfold maxLen at hm
    go_enter Tryz.func4, Tryz.ntmps4
    go_wp2
    go_ret
    exact ⟨rfl, Below.refl _ _⟩
  clear w0
  go_enter Tryz.func4, Tryz.ntmps4
  go_wp2_with fail
  refine (Draw.drawStep a0 len0 cap0 _ hlc hm hc).mono ?_
  rintro e va ⟨c, m, irq, rfl, MC, MF, hb⟩
  have FM := hide MF
  have S0 : Hid (Sit w [] [] va) := ⟨hb, fun b h => absurd h (by simp), fun r h => absurd h (by simp)⟩
  have M0 := MC.write.read
  clear hc hm hlc hb MC MF
  have S := S0
  clear S0
  obtain ⟨aq1, aq2, aq3, aq4, ak1, ak2, ak3, ak4, rfl⟩ := rforms M0
  have S2 := hide (Sit.add S.out M0)
  simp only [mv] at M0 S2 ⊢
  clear S M0
  have S := S2
  clear S2
  go_wp2_with fail
  generalize hZ : va.heap.size = X1 at S ⊢
  clear hZ
  generalize va.alloc (.cells #[.slice aq1 m.regs.length ak1, .int .i64 m.pc, .slice aq2 m.mem.length ak2, .int .i64 m.save, .bool m.lets, .bool m.waits, .int .i64 m.halt, .slice aq3 m.ins.length ak3, .slice aq4 m.outs.length ak4, .int .i64 m.count] 25) = wv1 at S ⊢
  have ac0 := (S.out.box (X1, [.slice aq1 m.regs.length ak1, .int .i64 m.pc, .slice aq2 m.mem.length ak2, .int .i64 m.save, .bool m.lets, .bool m.waits, .int .i64 m.halt, .slice aq3 m.ins.length ak3, .slice aq4 m.outs.length ak4, .int .i64 m.count], m) List.mem_cons_self).1.r.cell 0 _ rfl
  have ac1 := (S.out.box (X1, [.slice aq1 m.regs.length ak1, .int .i64 m.pc, .slice aq2 m.mem.length ak2, .int .i64 m.save, .bool m.lets, .bool m.waits, .int .i64 m.halt, .slice aq3 m.ins.length ak3, .slice aq4 m.outs.length ak4, .int .i64 m.count], m) List.mem_cons_self).1.r.cell 1 _ rfl
  have ac2 := (S.out.box (X1, [.slice aq1 m.regs.length ak1, .int .i64 m.pc, .slice aq2 m.mem.length ak2, .int .i64 m.save, .bool m.lets, .bool m.waits, .int .i64 m.halt, .slice aq3 m.ins.length ak3, .slice aq4 m.outs.length ak4, .int .i64 m.count], m) List.mem_cons_self).1.r.cell 2 _ rfl
  have ac3 := (S.out.box (X1, [.slice aq1 m.regs.length ak1, .int .i64 m.pc, .slice aq2 m.mem.length ak2, .int .i64 m.save, .bool m.lets, .bool m.waits, .int .i64 m.halt, .slice aq3 m.ins.length ak3, .slice aq4 m.outs.length ak4, .int .i64 m.count], m) List.mem_cons_self).1.r.cell 3 _ rfl
  have ac4 := (S.out.box (X1, [.slice aq1 m.regs.length ak1, .int .i64 m.pc, .slice aq2 m.mem.length ak2, .int .i64 m.save, .bool m.lets, .bool m.waits, .int .i64 m.halt, .slice aq3 m.ins.length ak3, .slice aq4 m.outs.length ak4, .int .i64 m.count], m) List.mem_cons_self).1.r.cell 4 _ rfl
  have ac5 := (S.out.box (X1, [.slice aq1 m.regs.length ak1, .int .i64 m.pc, .slice aq2 m.mem.length ak2, .int .i64 m.save, .bool m.lets, .bool m.waits, .int .i64 m.halt, .slice aq3 m.ins.length ak3, .slice aq4 m.outs.length ak4, .int .i64 m.count], m) List.mem_cons_self).1.r.cell 5 _ rfl
  have ac6 := (S.out.box (X1, [.slice aq1 m.regs.length ak1, .int .i64 m.pc, .slice aq2 m.mem.length ak2, .int .i64 m.save, .bool m.lets, .bool m.waits, .int .i64 m.halt, .slice aq3 m.ins.length ak3, .slice aq4 m.outs.length ak4, .int .i64 m.count], m) List.mem_cons_self).1.r.cell 6 _ rfl
  have ac7 := (S.out.box (X1, [.slice aq1 m.regs.length ak1, .int .i64 m.pc, .slice aq2 m.mem.length ak2, .int .i64 m.save, .bool m.lets, .bool m.waits, .int .i64 m.halt, .slice aq3 m.ins.length ak3, .slice aq4 m.outs.length ak4, .int .i64 m.count], m) List.mem_cons_self).1.r.cell 7 _ rfl
  have ac8 := (S.out.box (X1, [.slice aq1 m.regs.length ak1, .int .i64 m.pc, .slice aq2 m.mem.length ak2, .int .i64 m.save, .bool m.lets, .bool m.waits, .int .i64 m.halt, .slice aq3 m.ins.length ak3, .slice aq4 m.outs.length ak4, .int .i64 m.count], m) List.mem_cons_self).1.r.cell 8 _ rfl
  have ac9 := (S.out.box (X1, [.slice aq1 m.regs.length ak1, .int .i64 m.pc, .slice aq2 m.mem.length ak2, .int .i64 m.save, .bool m.lets, .bool m.waits, .int .i64 m.halt, .slice aq3 m.ins.length ak3, .slice aq4 m.outs.length ak4, .int .i64 m.count], m) List.mem_cons_self).1.r.cell 9 _ rfl
  obtain ⟨ok, eo⟩ : ∃ ok, okM m = ok := ⟨_, rfl⟩
  have EO := hide eo
  clear eo
  refine (Mch.mchOk m _ _ (S.out.box (X1, [.slice aq1 m.regs.length ak1, .int .i64 m.pc, .slice aq2 m.mem.length ak2, .int .i64 m.save, .bool m.lets, .bool m.waits, .int .i64 m.halt, .slice aq3 m.ins.length ak3, .slice aq4 m.outs.length ak4, .int .i64 m.count], m) List.mem_cons_self).2).mono ?_
  rintro e wv2 ⟨rfl, hb⟩
  rw [EO.out]
  have S2 := hide (S.out.below hb)
  clear S
  have S := S2
  clear S2
  clear hb
  clear ac0 ac1 ac2 ac3 ac4 ac5 ac6 ac7 ac8 ac9
  cases ok with
  | false =>
    have ac0 := (S.out.box (X1, [.slice aq1 m.regs.length ak1, .int .i64 m.pc, .slice aq2 m.mem.length ak2, .int .i64 m.save, .bool m.lets, .bool m.waits, .int .i64 m.halt, .slice aq3 m.ins.length ak3, .slice aq4 m.outs.length ak4, .int .i64 m.count], m) List.mem_cons_self).1.r.cell 0 _ rfl
    have ac1 := (S.out.box (X1, [.slice aq1 m.regs.length ak1, .int .i64 m.pc, .slice aq2 m.mem.length ak2, .int .i64 m.save, .bool m.lets, .bool m.waits, .int .i64 m.halt, .slice aq3 m.ins.length ak3, .slice aq4 m.outs.length ak4, .int .i64 m.count], m) List.mem_cons_self).1.r.cell 1 _ rfl
    have ac2 := (S.out.box (X1, [.slice aq1 m.regs.length ak1, .int .i64 m.pc, .slice aq2 m.mem.length ak2, .int .i64 m.save, .bool m.lets, .bool m.waits, .int .i64 m.halt, .slice aq3 m.ins.length ak3, .slice aq4 m.outs.length ak4, .int .i64 m.count], m) List.mem_cons_self).1.r.cell 2 _ rfl
    have ac3 := (S.out.box (X1, [.slice aq1 m.regs.length ak1, .int .i64 m.pc, .slice aq2 m.mem.length ak2, .int .i64 m.save, .bool m.lets, .bool m.waits, .int .i64 m.halt, .slice aq3 m.ins.length ak3, .slice aq4 m.outs.length ak4, .int .i64 m.count], m) List.mem_cons_self).1.r.cell 3 _ rfl
    have ac4 := (S.out.box (X1, [.slice aq1 m.regs.length ak1, .int .i64 m.pc, .slice aq2 m.mem.length ak2, .int .i64 m.save, .bool m.lets, .bool m.waits, .int .i64 m.halt, .slice aq3 m.ins.length ak3, .slice aq4 m.outs.length ak4, .int .i64 m.count], m) List.mem_cons_self).1.r.cell 4 _ rfl
    have ac5 := (S.out.box (X1, [.slice aq1 m.regs.length ak1, .int .i64 m.pc, .slice aq2 m.mem.length ak2, .int .i64 m.save, .bool m.lets, .bool m.waits, .int .i64 m.halt, .slice aq3 m.ins.length ak3, .slice aq4 m.outs.length ak4, .int .i64 m.count], m) List.mem_cons_self).1.r.cell 5 _ rfl
    have ac6 := (S.out.box (X1, [.slice aq1 m.regs.length ak1, .int .i64 m.pc, .slice aq2 m.mem.length ak2, .int .i64 m.save, .bool m.lets, .bool m.waits, .int .i64 m.halt, .slice aq3 m.ins.length ak3, .slice aq4 m.outs.length ak4, .int .i64 m.count], m) List.mem_cons_self).1.r.cell 6 _ rfl
    have ac7 := (S.out.box (X1, [.slice aq1 m.regs.length ak1, .int .i64 m.pc, .slice aq2 m.mem.length ak2, .int .i64 m.save, .bool m.lets, .bool m.waits, .int .i64 m.halt, .slice aq3 m.ins.length ak3, .slice aq4 m.outs.length ak4, .int .i64 m.count], m) List.mem_cons_self).1.r.cell 7 _ rfl
    have ac8 := (S.out.box (X1, [.slice aq1 m.regs.length ak1, .int .i64 m.pc, .slice aq2 m.mem.length ak2, .int .i64 m.save, .bool m.lets, .bool m.waits, .int .i64 m.halt, .slice aq3 m.ins.length ak3, .slice aq4 m.outs.length ak4, .int .i64 m.count], m) List.mem_cons_self).1.r.cell 8 _ rfl
    have ac9 := (S.out.box (X1, [.slice aq1 m.regs.length ak1, .int .i64 m.pc, .slice aq2 m.mem.length ak2, .int .i64 m.save, .bool m.lets, .bool m.waits, .int .i64 m.halt, .slice aq3 m.ins.length ak3, .slice aq4 m.outs.length ak4, .int .i64 m.count], m) List.mem_cons_self).1.r.cell 9 _ rfl
    go_wp2_with fail
    refine (La.laOk _).mono ?_
    rintro e u ⟨rfl, rfl⟩
    have FIN := hide S.out.bw
    clear S
    go_wp2
    go_ret
    exact ⟨rfl, FIN.out⟩
  | true =>
    obtain ⟨x, ex⟩ : ∃ x, stepM m irq = x := ⟨_, rfl⟩
    have SD := step_did EO.out irq
    rw [ex] at SD
    obtain ⟨so, si, _⟩ := SD
    have EX := hide ex
    clear ex
    have hl1 : m.outs.length ≤ x.outs.length := by rcases so with h | ⟨y, h⟩ <;> rw [h] <;> simp
    have hl2 : x.outs.length ≤ m.outs.length + 1 := by rcases so with h | ⟨y, h⟩ <;> rw [h] <;> simp
    have hl3 := FM.out.near.mid.2.2.2
    have HF : Hid (x.outs.take m.outs.length = m.outs) := show _ = _ by rcases so with h | ⟨y, h⟩ <;> rw [h] <;> simp
    have HSI := hide si
    have n1 : ¬ (((x.outs.length : Nat) : Int) < ((m.outs.length : Nat) : Int)) := by omega
    have n2 : ¬ (((m.outs.length : Nat) : Int) + 1 < ((x.outs.length : Nat) : Int)) := by omega
    have n3 : ¬ (x.outs.length < m.outs.length) := by omega
    have n5 : decide (((m.outs.length : Nat) : Int) + 1 < ((x.outs.length : Nat) : Int)) = false := decide_eq_false n2
    have n4 : ¬ (m.outs.length + 1 < x.outs.length) := by omega
    have hw : IntKind.i64.wrap (((m.outs.length : Nat) : Int) + 1) = ((m.outs.length : Nat) : Int) + 1 := IntWalk.i64_in _ ⟨by omega, by omega⟩
    have HL := hide hl1
    clear so si hl1 hl2 hl3
    have ac0 := (S.out.box (X1, [.slice aq1 m.regs.length ak1, .int .i64 m.pc, .slice aq2 m.mem.length ak2, .int .i64 m.save, .bool m.lets, .bool m.waits, .int .i64 m.halt, .slice aq3 m.ins.length ak3, .slice aq4 m.outs.length ak4, .int .i64 m.count], m) List.mem_cons_self).1.r.cell 0 _ rfl
    have ac1 := (S.out.box (X1, [.slice aq1 m.regs.length ak1, .int .i64 m.pc, .slice aq2 m.mem.length ak2, .int .i64 m.save, .bool m.lets, .bool m.waits, .int .i64 m.halt, .slice aq3 m.ins.length ak3, .slice aq4 m.outs.length ak4, .int .i64 m.count], m) List.mem_cons_self).1.r.cell 1 _ rfl
    have ac2 := (S.out.box (X1, [.slice aq1 m.regs.length ak1, .int .i64 m.pc, .slice aq2 m.mem.length ak2, .int .i64 m.save, .bool m.lets, .bool m.waits, .int .i64 m.halt, .slice aq3 m.ins.length ak3, .slice aq4 m.outs.length ak4, .int .i64 m.count], m) List.mem_cons_self).1.r.cell 2 _ rfl
    have ac3 := (S.out.box (X1, [.slice aq1 m.regs.length ak1, .int .i64 m.pc, .slice aq2 m.mem.length ak2, .int .i64 m.save, .bool m.lets, .bool m.waits, .int .i64 m.halt, .slice aq3 m.ins.length ak3, .slice aq4 m.outs.length ak4, .int .i64 m.count], m) List.mem_cons_self).1.r.cell 3 _ rfl
    have ac4 := (S.out.box (X1, [.slice aq1 m.regs.length ak1, .int .i64 m.pc, .slice aq2 m.mem.length ak2, .int .i64 m.save, .bool m.lets, .bool m.waits, .int .i64 m.halt, .slice aq3 m.ins.length ak3, .slice aq4 m.outs.length ak4, .int .i64 m.count], m) List.mem_cons_self).1.r.cell 4 _ rfl
    have ac5 := (S.out.box (X1, [.slice aq1 m.regs.length ak1, .int .i64 m.pc, .slice aq2 m.mem.length ak2, .int .i64 m.save, .bool m.lets, .bool m.waits, .int .i64 m.halt, .slice aq3 m.ins.length ak3, .slice aq4 m.outs.length ak4, .int .i64 m.count], m) List.mem_cons_self).1.r.cell 5 _ rfl
    have ac6 := (S.out.box (X1, [.slice aq1 m.regs.length ak1, .int .i64 m.pc, .slice aq2 m.mem.length ak2, .int .i64 m.save, .bool m.lets, .bool m.waits, .int .i64 m.halt, .slice aq3 m.ins.length ak3, .slice aq4 m.outs.length ak4, .int .i64 m.count], m) List.mem_cons_self).1.r.cell 6 _ rfl
    have ac7 := (S.out.box (X1, [.slice aq1 m.regs.length ak1, .int .i64 m.pc, .slice aq2 m.mem.length ak2, .int .i64 m.save, .bool m.lets, .bool m.waits, .int .i64 m.halt, .slice aq3 m.ins.length ak3, .slice aq4 m.outs.length ak4, .int .i64 m.count], m) List.mem_cons_self).1.r.cell 7 _ rfl
    have ac8 := (S.out.box (X1, [.slice aq1 m.regs.length ak1, .int .i64 m.pc, .slice aq2 m.mem.length ak2, .int .i64 m.save, .bool m.lets, .bool m.waits, .int .i64 m.halt, .slice aq3 m.ins.length ak3, .slice aq4 m.outs.length ak4, .int .i64 m.count], m) List.mem_cons_self).1.r.cell 8 _ rfl
    have ac9 := (S.out.box (X1, [.slice aq1 m.regs.length ak1, .int .i64 m.pc, .slice aq2 m.mem.length ak2, .int .i64 m.save, .bool m.lets, .bool m.waits, .int .i64 m.halt, .slice aq3 m.ins.length ak3, .slice aq4 m.outs.length ak4, .int .i64 m.count], m) List.mem_cons_self).1.r.cell 9 _ rfl
    go_wp2_with fail
    refine (MchI.mchStep m irq _ _ (S.out.box (X1, [.slice aq1 m.regs.length ak1, .int .i64 m.pc, .slice aq2 m.mem.length ak2, .int .i64 m.save, .bool m.lets, .bool m.waits, .int .i64 m.halt, .slice aq3 m.ins.length ak3, .slice aq4 m.outs.length ak4, .int .i64 m.count], m) List.mem_cons_self).2 FM.out.near.mid).mono ?_
    rintro e wv3 ⟨c2, rfl, M1, hb⟩
    have M2 := M1.read
    rw [EX.out] at M2
    clear M1
    have S2 := hide (S.out.below hb)
    clear S
    have S := S2
    clear S2
    clear hb
    clear ac0 ac1 ac2 ac3 ac4 ac5 ac6 ac7 ac8 ac9
    obtain ⟨bq1, bq2, bq3, bq4, bk1, bk2, bk3, bk4, rfl⟩ := rforms M2
    have S2 := hide (Sit.add S.out M2)
    simp only [mv] at M2 S2 ⊢
    clear S M2
    have S := S2
    clear S2
    have ac0 := (S.out.box (X1, [.slice aq1 m.regs.length ak1, .int .i64 m.pc, .slice aq2 m.mem.length ak2, .int .i64 m.save, .bool m.lets, .bool m.waits, .int .i64 m.halt, .slice aq3 m.ins.length ak3, .slice aq4 m.outs.length ak4, .int .i64 m.count], m) (List.mem_cons_of_mem _ List.mem_cons_self)).1.r.cell 0 _ rfl
    have ac1 := (S.out.box (X1, [.slice aq1 m.regs.length ak1, .int .i64 m.pc, .slice aq2 m.mem.length ak2, .int .i64 m.save, .bool m.lets, .bool m.waits, .int .i64 m.halt, .slice aq3 m.ins.length ak3, .slice aq4 m.outs.length ak4, .int .i64 m.count], m) (List.mem_cons_of_mem _ List.mem_cons_self)).1.r.cell 1 _ rfl
    have ac2 := (S.out.box (X1, [.slice aq1 m.regs.length ak1, .int .i64 m.pc, .slice aq2 m.mem.length ak2, .int .i64 m.save, .bool m.lets, .bool m.waits, .int .i64 m.halt, .slice aq3 m.ins.length ak3, .slice aq4 m.outs.length ak4, .int .i64 m.count], m) (List.mem_cons_of_mem _ List.mem_cons_self)).1.r.cell 2 _ rfl
    have ac3 := (S.out.box (X1, [.slice aq1 m.regs.length ak1, .int .i64 m.pc, .slice aq2 m.mem.length ak2, .int .i64 m.save, .bool m.lets, .bool m.waits, .int .i64 m.halt, .slice aq3 m.ins.length ak3, .slice aq4 m.outs.length ak4, .int .i64 m.count], m) (List.mem_cons_of_mem _ List.mem_cons_self)).1.r.cell 3 _ rfl
    have ac4 := (S.out.box (X1, [.slice aq1 m.regs.length ak1, .int .i64 m.pc, .slice aq2 m.mem.length ak2, .int .i64 m.save, .bool m.lets, .bool m.waits, .int .i64 m.halt, .slice aq3 m.ins.length ak3, .slice aq4 m.outs.length ak4, .int .i64 m.count], m) (List.mem_cons_of_mem _ List.mem_cons_self)).1.r.cell 4 _ rfl
    have ac5 := (S.out.box (X1, [.slice aq1 m.regs.length ak1, .int .i64 m.pc, .slice aq2 m.mem.length ak2, .int .i64 m.save, .bool m.lets, .bool m.waits, .int .i64 m.halt, .slice aq3 m.ins.length ak3, .slice aq4 m.outs.length ak4, .int .i64 m.count], m) (List.mem_cons_of_mem _ List.mem_cons_self)).1.r.cell 5 _ rfl
    have ac6 := (S.out.box (X1, [.slice aq1 m.regs.length ak1, .int .i64 m.pc, .slice aq2 m.mem.length ak2, .int .i64 m.save, .bool m.lets, .bool m.waits, .int .i64 m.halt, .slice aq3 m.ins.length ak3, .slice aq4 m.outs.length ak4, .int .i64 m.count], m) (List.mem_cons_of_mem _ List.mem_cons_self)).1.r.cell 6 _ rfl
    have ac7 := (S.out.box (X1, [.slice aq1 m.regs.length ak1, .int .i64 m.pc, .slice aq2 m.mem.length ak2, .int .i64 m.save, .bool m.lets, .bool m.waits, .int .i64 m.halt, .slice aq3 m.ins.length ak3, .slice aq4 m.outs.length ak4, .int .i64 m.count], m) (List.mem_cons_of_mem _ List.mem_cons_self)).1.r.cell 7 _ rfl
    have ac8 := (S.out.box (X1, [.slice aq1 m.regs.length ak1, .int .i64 m.pc, .slice aq2 m.mem.length ak2, .int .i64 m.save, .bool m.lets, .bool m.waits, .int .i64 m.halt, .slice aq3 m.ins.length ak3, .slice aq4 m.outs.length ak4, .int .i64 m.count], m) (List.mem_cons_of_mem _ List.mem_cons_self)).1.r.cell 8 _ rfl
    have ac9 := (S.out.box (X1, [.slice aq1 m.regs.length ak1, .int .i64 m.pc, .slice aq2 m.mem.length ak2, .int .i64 m.save, .bool m.lets, .bool m.waits, .int .i64 m.halt, .slice aq3 m.ins.length ak3, .slice aq4 m.outs.length ak4, .int .i64 m.count], m) (List.mem_cons_of_mem _ List.mem_cons_self)).1.r.cell 9 _ rfl
    go_wp2_with fail
    clear ac0 ac1 ac2 ac3 ac4 ac5 ac6 ac7 ac8 ac9
    generalize hZ : wv3.heap.size = X2 at S ⊢
    clear hZ
    generalize wv3.alloc (.cells #[.slice bq1 x.regs.length bk1, .int .i64 x.pc, .slice bq2 x.mem.length bk2, .int .i64 x.save, .bool x.lets, .bool x.waits, .int .i64 x.halt, .slice bq3 x.ins.length bk3, .slice bq4 x.outs.length bk4, .int .i64 x.count] 25) = wv4 at S ⊢
    have lc : ((m.outs.length : Nat) : Int) ≤ ((bk4 : Nat) : Int) := by
      obtain ⟨_, hr⟩ := (RMach.rows (m := x) (S.out.box (X2, [.slice bq1 x.regs.length bk1, .int .i64 x.pc, .slice bq2 x.mem.length bk2, .int .i64 x.save, .bool x.lets, .bool x.waits, .int .i64 x.halt, .slice bq3 x.ins.length bk3, .slice bq4 x.outs.length bk4, .int .i64 x.count], x) List.mem_cons_self).2).2.2.2
      obtain ⟨_, h2, _⟩ := row_cap hr
      have := HL.out
      omega
    have lc2 : m.outs.length ≤ bk4 := by omega
    clear HL
    refine (wpIn_wide (n := 0)).1 ?_
    have S2 := hide S.out.drew
    clear S
    have S := S2
    clear S2
    refine PhaseIn.region (S := fun v => Sit w [(X2, [.slice bq1 x.regs.length bk1, .int .i64 x.pc, .slice bq2 x.mem.length bk2, .int .i64 x.save, .bool x.lets, .bool x.waits, .int .i64 x.halt, .slice bq3 x.ins.length bk3, .slice bq4 x.outs.length bk4, .int .i64 x.count], x), (X1, [.slice aq1 m.regs.length ak1, .int .i64 m.pc, .slice aq2 m.mem.length ak2, .int .i64 m.save, .bool m.lets, .bool m.waits, .int .i64 m.halt, .slice aq3 m.ins.length ak3, .slice aq4 m.outs.length ak4, .int .i64 m.count], m)] [] v) 23 (by kernel_rfl) ?_
    generalize wv4.drew = wv5 at *
    have hHeld := S.out
    clear S
    refine PhaseIn.takeD (i := 0) (v := ?_) [0, 1, 2, 4, 5, 6, 7, 8, 9, 10, 11, 12, 13, 14, 15, 16, 17, 18, 19, 20, 21, 22] 25 rfl (by rfl) (by kernel_rfl) (by kernel_rfl) (by kernel_rfl) (by kernel_rfl) (by kernel_rfl) (fun _ _ _ h => h) (Or.inl ⟨by kernel_rfl, ?_⟩) hHeld ?_
    rotate_left
    · intro w' hSw
      (try dsimp only at hSw)
      go_simp
      first | done | with_reducible rfl
    try simp only [Act.put, List.setIfInBounds_toArray, List.set]
    refine PhaseIn.takeD (i := 1) (v := ?_) [1, 2, 4, 5, 6, 7, 8, 9, 10, 11, 12, 13, 14, 15, 16, 17, 18, 19, 20, 21, 22] 26 rfl (by rfl) (by kernel_rfl) (by kernel_rfl) (by kernel_rfl) (by kernel_rfl) (by kernel_rfl) (fun _ _ _ h => h) (Or.inl ⟨by kernel_rfl, ?_⟩) hHeld ?_
    rotate_left
    · intro w' hSw
      (try dsimp only at hSw)
      have z8 := (hSw.box (X2, [.slice bq1 x.regs.length bk1, .int .i64 x.pc, .slice bq2 x.mem.length bk2, .int .i64 x.save, .bool x.lets, .bool x.waits, .int .i64 x.halt, .slice bq3 x.ins.length bk3, .slice bq4 x.outs.length bk4, .int .i64 x.count], x) List.mem_cons_self).1.r.cell 8 _ rfl
      go_simp
      first | done | with_reducible rfl
    try simp only [Act.put, List.setIfInBounds_toArray, List.set]
    refine PhaseIn.takeD (i := 2) (v := ?_) [2, 4, 5, 6, 7, 8, 9, 10, 11, 12, 13, 14, 15, 16, 17, 18, 19, 20, 21, 22] 27 rfl (by rfl) (by kernel_rfl) (by kernel_rfl) (by kernel_rfl) (by kernel_rfl) (by kernel_rfl) (fun _ _ _ h => h) (Or.inl ⟨by kernel_rfl, ?_⟩) hHeld ?_
    rotate_left
    · intro w' hSw
      (try dsimp only at hSw)
      go_simp
      first | done | with_reducible rfl
    try simp only [Act.put, List.setIfInBounds_toArray, List.set]
    refine PhaseIn.takeD (i := 3) (v := ?_) [3, 4, 5, 6, 7, 8, 9, 10, 11, 12, 13, 14, 15, 16, 17, 18, 19, 20, 21, 22] 28 rfl (by rfl) (by kernel_rfl) (by kernel_rfl) (by kernel_rfl) (by kernel_rfl) (by kernel_rfl) (fun _ _ _ h => h) (Or.inl ⟨by kernel_rfl, ?_⟩) hHeld ?_
    rotate_left
    · intro w' hSw
      (try dsimp only at hSw)
      go_simp
      first | done | with_reducible rfl
    try simp only [Act.put, List.setIfInBounds_toArray, List.set]
    refine PhaseIn.takeD (i := 4) (v := ?_) [4, 5, 6, 7, 8, 9, 10, 11, 12, 13, 14, 15, 16, 17, 18, 19, 20, 21, 22] 29 rfl (by rfl) (by kernel_rfl) (by kernel_rfl) (by kernel_rfl) (by kernel_rfl) (by kernel_rfl) (fun _ _ _ h => h) (Or.inl ⟨by kernel_rfl, ?_⟩) hHeld ?_
    rotate_left
    · intro w' hSw
      (try dsimp only at hSw)
      go_simp
      first | done | with_reducible rfl
    try simp only [Act.put, List.setIfInBounds_toArray, List.set]
    refine PhaseIn.takeD (i := 5) (v := ?_) [5, 6, 7, 8, 9, 10, 11, 12, 13, 14, 15, 16, 17, 18, 19, 20, 21, 22] 30 rfl (by rfl) (by kernel_rfl) (by kernel_rfl) (by kernel_rfl) (by kernel_rfl) (by kernel_rfl) (fun _ _ _ h => h) (Or.inl ⟨by kernel_rfl, ?_⟩) hHeld ?_
    rotate_left
    · intro w' hSw
      (try dsimp only at hSw)
      go_simp
      first | done | with_reducible rfl
    try simp only [Act.put, List.setIfInBounds_toArray, List.set]
    refine PhaseIn.takeD (i := 6) (v := ?_) [6, 7, 8, 11, 12, 13, 14, 15, 16, 17, 18, 19, 20, 21, 22] 31 rfl (by rfl) (by kernel_rfl) (by kernel_rfl) (by kernel_rfl) (by kernel_rfl) (by kernel_rfl) (fun _ _ _ h => h) (Or.inl ⟨by kernel_rfl, ?_⟩) hHeld ?_
    rotate_left
    · intro w' hSw
      (try dsimp only at hSw)
      go_simp
      first | done | with_reducible rfl
    try simp only [Act.put, List.setIfInBounds_toArray, List.set]
    refine PhaseIn.takeD (i := 7) (v := ?_) [7, 8, 11, 12, 13, 14, 15, 16, 17, 18, 19, 20, 21, 22] 32 rfl (by rfl) (by kernel_rfl) (by kernel_rfl) (by kernel_rfl) (by kernel_rfl) (by kernel_rfl) (fun _ _ _ h => h) (Or.inl ⟨by kernel_rfl, ?_⟩) hHeld ?_
    rotate_left
    · intro w' hSw
      (try dsimp only at hSw)
      have z8 := (hSw.box (X2, [.slice bq1 x.regs.length bk1, .int .i64 x.pc, .slice bq2 x.mem.length bk2, .int .i64 x.save, .bool x.lets, .bool x.waits, .int .i64 x.halt, .slice bq3 x.ins.length bk3, .slice bq4 x.outs.length bk4, .int .i64 x.count], x) List.mem_cons_self).1.r.cell 8 _ rfl
      go_simp
      first | done | with_reducible rfl
    try simp only [Act.put, List.setIfInBounds_toArray, List.set]
    refine PhaseIn.takeD (i := 8) (v := ?_) [8, 11, 12, 13, 14, 15, 16, 17, 18, 19, 20, 21, 22] 33 rfl (by rfl) (by kernel_rfl) (by kernel_rfl) (by kernel_rfl) (by kernel_rfl) (by kernel_rfl) (fun _ _ _ h => h) (Or.inl ⟨by kernel_rfl, ?_⟩) hHeld ?_
    rotate_left
    · intro w' hSw
      (try dsimp only at hSw)
      go_simp
      first | done | with_reducible rfl
    try simp only [Act.put, List.setIfInBounds_toArray, List.set]
    refine PhaseIn.takeD (i := 9) (v := ?_) [9, 10, 11, 12, 13, 14, 15, 16, 17, 18, 19, 20, 21, 22] 34 rfl (by rfl) (by kernel_rfl) (by kernel_rfl) (by kernel_rfl) (by kernel_rfl) (by kernel_rfl) (fun _ _ _ h => h) (Or.inl ⟨by kernel_rfl, ?_⟩) hHeld ?_
    rotate_left
    · intro w' hSw
      (try dsimp only at hSw)
      go_simp
      first | done | with_reducible rfl
    try simp only [Act.put, List.setIfInBounds_toArray, List.set]
    refine PhaseIn.takeD (i := 10) (v := ?_) [10, 11, 12, 13, 14, 15, 16, 17, 18, 19, 20, 21, 22] 35 rfl (by rfl) (by kernel_rfl) (by kernel_rfl) (by kernel_rfl) (by kernel_rfl) (by kernel_rfl) (fun _ _ _ h => h) (Or.inl ⟨by kernel_rfl, ?_⟩) hHeld ?_
    rotate_left
    · intro w' hSw
      (try dsimp only at hSw)
      go_simp
      first | done | with_reducible rfl
    try simp only [Act.put, List.setIfInBounds_toArray, List.set]
    refine PhaseIn.takeD (i := 11) (v := (.bool false)) [11, 12, 13, 14, 15, 16, 17, 18, 19, 20, 21, 22] 36 rfl (by rfl) (by kernel_rfl) (by kernel_rfl) (by kernel_rfl) (by kernel_rfl) (by kernel_rfl) (fun _ _ _ h => h) (Or.inl ⟨by kernel_rfl, ?_⟩) hHeld ?_
    · intro w' hSw
      (try dsimp only at hSw)
      go_simp
      first | done | with_reducible rfl | (rw [n5]; done) | (simp only [n5]; done) | (simp [n2])
    try simp only [Act.put, List.setIfInBounds_toArray, List.set]
    refine PhaseIn.takeD (i := 12) (v := ?_) [12, 13, 14, 15, 16, 17, 18, 19, 20, 21, 22] 37 rfl (by rfl) (by kernel_rfl) (by kernel_rfl) (by kernel_rfl) (by kernel_rfl) (by kernel_rfl) (fun _ _ _ h => h) (Or.inl ⟨by kernel_rfl, ?_⟩) hHeld ?_
    rotate_left
    · intro w' hSw
      (try dsimp only at hSw)
      go_simp
      first | done | with_reducible rfl
    try simp only [Act.put, List.setIfInBounds_toArray, List.set]
    refine PhaseIn.takeD (i := 13) (v := ?_) [13, 14, 15, 16, 17, 18, 19, 20, 21, 22] 38 rfl (by rfl) (by kernel_rfl) (by kernel_rfl) (by kernel_rfl) (by kernel_rfl) (by kernel_rfl) (fun _ _ _ h => h) (Or.inl ⟨by kernel_rfl, ?_⟩) hHeld ?_
    rotate_left
    · intro w' hSw
      (try dsimp only at hSw)
      go_simp
      first | done | with_reducible rfl
    try simp only [Act.put, List.setIfInBounds_toArray, List.set]
    refine PhaseIn.takeD (i := 14) (v := ?_) [14, 15, 17, 20, 21, 22] 39 rfl (by rfl) (by kernel_rfl) (by kernel_rfl) (by kernel_rfl) (by kernel_rfl) (by kernel_rfl) (fun _ _ _ h => h) (Or.inl ⟨by kernel_rfl, ?_⟩) hHeld ?_
    rotate_left
    · intro w' hSw
      (try dsimp only at hSw)
      go_simp
      first | done | with_reducible rfl
    try simp only [Act.put, List.setIfInBounds_toArray, List.set]
    refine PhaseIn.takeD (i := 15) (v := ?_) [15, 17, 20, 21, 22] 40 rfl (by rfl) (by kernel_rfl) (by kernel_rfl) (by kernel_rfl) (by kernel_rfl) (by kernel_rfl) (fun _ _ _ h => h) (Or.inl ⟨by kernel_rfl, ?_⟩) hHeld ?_
    rotate_left
    · intro w' hSw
      (try dsimp only at hSw)
      have z8 := (hSw.box (X2, [.slice bq1 x.regs.length bk1, .int .i64 x.pc, .slice bq2 x.mem.length bk2, .int .i64 x.save, .bool x.lets, .bool x.waits, .int .i64 x.halt, .slice bq3 x.ins.length bk3, .slice bq4 x.outs.length bk4, .int .i64 x.count], x) List.mem_cons_self).1.r.cell 8 _ rfl
      go_simp
      first | done | with_reducible rfl
    try simp only [Act.put, List.setIfInBounds_toArray, List.set]
    refine PhaseIn.takeD (i := 16) (v := ?_) [16, 17, 20, 21, 22] 41 rfl (by rfl) (by kernel_rfl) (by kernel_rfl) (by kernel_rfl) (by kernel_rfl) (by kernel_rfl) (fun _ _ _ h => h) (Or.inl ⟨by kernel_rfl, ?_⟩) hHeld ?_
    rotate_left
    · intro w' hSw
      (try dsimp only at hSw)
      go_simp
      first | done | with_reducible rfl
    try simp only [Act.put, List.setIfInBounds_toArray, List.set]
    refine PhaseIn.takeD (i := 17) (v := ?_) [17, 20, 21, 22] 42 rfl (by rfl) (by kernel_rfl) (by kernel_rfl) (by kernel_rfl) (by kernel_rfl) (by kernel_rfl) (fun _ _ _ h => h) (Or.inl ⟨by kernel_rfl, ?_⟩) hHeld ?_
    rotate_left
    · intro w' hSw
      (try dsimp only at hSw)
      go_simp
      first | done | with_reducible rfl
    try simp only [Act.put, List.setIfInBounds_toArray, List.set]
    refine PhaseIn.takeD (i := 18) (v := ?_) [18, 19, 20, 21, 22] 43 rfl (by rfl) (by kernel_rfl) (by kernel_rfl) (by kernel_rfl) (by kernel_rfl) (by kernel_rfl) (fun _ _ _ h => h) (Or.inl ⟨by kernel_rfl, ?_⟩) hHeld ?_
    rotate_left
    · intro w' hSw
      (try dsimp only at hSw)
      go_simp
      first | done | with_reducible rfl
    try simp only [Act.put, List.setIfInBounds_toArray, List.set]
    refine PhaseIn.takeD (i := 19) (v := ?_) [19, 20, 21, 22] 44 rfl (by rfl) (by kernel_rfl) (by kernel_rfl) (by kernel_rfl) (by kernel_rfl) (by kernel_rfl) (fun _ _ _ h => h) (Or.inl ⟨by kernel_rfl, ?_⟩) hHeld ?_
    rotate_left
    · intro w' hSw
      (try dsimp only at hSw)
      have z8 := (hSw.box (X1, [.slice aq1 m.regs.length ak1, .int .i64 m.pc, .slice aq2 m.mem.length ak2, .int .i64 m.save, .bool m.lets, .bool m.waits, .int .i64 m.halt, .slice aq3 m.ins.length ak3, .slice aq4 m.outs.length ak4, .int .i64 m.count], m) (List.mem_cons_of_mem _ List.mem_cons_self)).1.r.cell 8 _ rfl
      go_simp
      first | done | with_reducible rfl
    try simp only [Act.put, List.setIfInBounds_toArray, List.set]
    obtain ⟨B1, h1⟩ := (RMach.rows (m := x) (hHeld.box (X2, [.slice bq1 x.regs.length bk1, .int .i64 x.pc, .slice bq2 x.mem.length bk2, .int .i64 x.save, .bool x.lets, .bool x.waits, .int .i64 x.halt, .slice bq3 x.ins.length bk3, .slice bq4 x.outs.length bk4, .int .i64 x.count], x) List.mem_cons_self).2).2.2.2
    obtain ⟨B2, h2⟩ := (RMach.rows (m := m) (hHeld.box (X1, [.slice aq1 m.regs.length ak1, .int .i64 m.pc, .slice aq2 m.mem.length ak2, .int .i64 m.save, .bool m.lets, .bool m.waits, .int .i64 m.halt, .slice aq3 m.ins.length ak3, .slice aq4 m.outs.length ak4, .int .i64 m.count], m) (List.mem_cons_of_mem _ List.mem_cons_self)).2).2.2.2
    refine PhaseIn.one (i := 20) (by kernel_rfl) rfl (by kernel_rfl) (fun K hK => ?_)
    unfold Oper.wpIn
    refine ⟨fun _ _ => trivial, ?_⟩
    go_simp
    refine ⟨rfl, (callsIn_wide.2 (laFront h1 h2 HF.out)).mono ?_⟩
    rintro e wv6 ⟨rfl, hb⟩
    replace hHeld := hHeld.below hb
    clear hb
    refine hK _ _ (fun _ => hHeld) ?_
    clear hK K
    try simp only [Act.put, List.setIfInBounds_toArray, List.set]
    refine PhaseIn.takeD (i := 21) (v := ?_) [21, 22] 46 rfl (by rfl) (by kernel_rfl) (by kernel_rfl) (by kernel_rfl) (by kernel_rfl) (by kernel_rfl) (fun _ _ _ h => h) (Or.inl ⟨by kernel_rfl, ?_⟩) hHeld ?_
    rotate_left
    · intro w' hSw
      (try dsimp only at hSw)
      go_simp
      first | done | with_reducible rfl
    try simp only [Act.put, List.setIfInBounds_toArray, List.set]
    refine PhaseIn.takeD (i := 22) (v := ?_) [22] 47 rfl (by rfl) (by kernel_rfl) (by kernel_rfl) (by kernel_rfl) (by kernel_rfl) (by kernel_rfl) (fun _ _ _ h => h) (Or.inl ⟨by kernel_rfl, ?_⟩) hHeld ?_
    rotate_left
    · intro w' hSw
      (try dsimp only at hSw)
      go_simp
      first | done | with_reducible rfl
    try simp only [Act.put, List.setIfInBounds_toArray, List.set]
    refine PhaseIn.done (by kernel_rfl) ?_ _
    have S := hide hHeld
    clear hHeld
    clear h1 h2
    have ac0 := (S.out.box (X1, [.slice aq1 m.regs.length ak1, .int .i64 m.pc, .slice aq2 m.mem.length ak2, .int .i64 m.save, .bool m.lets, .bool m.waits, .int .i64 m.halt, .slice aq3 m.ins.length ak3, .slice aq4 m.outs.length ak4, .int .i64 m.count], m) (List.mem_cons_of_mem _ List.mem_cons_self)).1.r.cell 0 _ rfl
    have ac1 := (S.out.box (X1, [.slice aq1 m.regs.length ak1, .int .i64 m.pc, .slice aq2 m.mem.length ak2, .int .i64 m.save, .bool m.lets, .bool m.waits, .int .i64 m.halt, .slice aq3 m.ins.length ak3, .slice aq4 m.outs.length ak4, .int .i64 m.count], m) (List.mem_cons_of_mem _ List.mem_cons_self)).1.r.cell 1 _ rfl
    have ac2 := (S.out.box (X1, [.slice aq1 m.regs.length ak1, .int .i64 m.pc, .slice aq2 m.mem.length ak2, .int .i64 m.save, .bool m.lets, .bool m.waits, .int .i64 m.halt, .slice aq3 m.ins.length ak3, .slice aq4 m.outs.length ak4, .int .i64 m.count], m) (List.mem_cons_of_mem _ List.mem_cons_self)).1.r.cell 2 _ rfl
    have ac3 := (S.out.box (X1, [.slice aq1 m.regs.length ak1, .int .i64 m.pc, .slice aq2 m.mem.length ak2, .int .i64 m.save, .bool m.lets, .bool m.waits, .int .i64 m.halt, .slice aq3 m.ins.length ak3, .slice aq4 m.outs.length ak4, .int .i64 m.count], m) (List.mem_cons_of_mem _ List.mem_cons_self)).1.r.cell 3 _ rfl
    have ac4 := (S.out.box (X1, [.slice aq1 m.regs.length ak1, .int .i64 m.pc, .slice aq2 m.mem.length ak2, .int .i64 m.save, .bool m.lets, .bool m.waits, .int .i64 m.halt, .slice aq3 m.ins.length ak3, .slice aq4 m.outs.length ak4, .int .i64 m.count], m) (List.mem_cons_of_mem _ List.mem_cons_self)).1.r.cell 4 _ rfl
    have ac5 := (S.out.box (X1, [.slice aq1 m.regs.length ak1, .int .i64 m.pc, .slice aq2 m.mem.length ak2, .int .i64 m.save, .bool m.lets, .bool m.waits, .int .i64 m.halt, .slice aq3 m.ins.length ak3, .slice aq4 m.outs.length ak4, .int .i64 m.count], m) (List.mem_cons_of_mem _ List.mem_cons_self)).1.r.cell 5 _ rfl
    have ac6 := (S.out.box (X1, [.slice aq1 m.regs.length ak1, .int .i64 m.pc, .slice aq2 m.mem.length ak2, .int .i64 m.save, .bool m.lets, .bool m.waits, .int .i64 m.halt, .slice aq3 m.ins.length ak3, .slice aq4 m.outs.length ak4, .int .i64 m.count], m) (List.mem_cons_of_mem _ List.mem_cons_self)).1.r.cell 6 _ rfl
    have ac7 := (S.out.box (X1, [.slice aq1 m.regs.length ak1, .int .i64 m.pc, .slice aq2 m.mem.length ak2, .int .i64 m.save, .bool m.lets, .bool m.waits, .int .i64 m.halt, .slice aq3 m.ins.length ak3, .slice aq4 m.outs.length ak4, .int .i64 m.count], m) (List.mem_cons_of_mem _ List.mem_cons_self)).1.r.cell 7 _ rfl
    have ac8 := (S.out.box (X1, [.slice aq1 m.regs.length ak1, .int .i64 m.pc, .slice aq2 m.mem.length ak2, .int .i64 m.save, .bool m.lets, .bool m.waits, .int .i64 m.halt, .slice aq3 m.ins.length ak3, .slice aq4 m.outs.length ak4, .int .i64 m.count], m) (List.mem_cons_of_mem _ List.mem_cons_self)).1.r.cell 8 _ rfl
    have ac9 := (S.out.box (X1, [.slice aq1 m.regs.length ak1, .int .i64 m.pc, .slice aq2 m.mem.length ak2, .int .i64 m.save, .bool m.lets, .bool m.waits, .int .i64 m.halt, .slice aq3 m.ins.length ak3, .slice aq4 m.outs.length ak4, .int .i64 m.count], m) (List.mem_cons_of_mem _ List.mem_cons_self)).1.r.cell 9 _ rfl
    have bc0 := (S.out.box (X2, [.slice bq1 x.regs.length bk1, .int .i64 x.pc, .slice bq2 x.mem.length bk2, .int .i64 x.save, .bool x.lets, .bool x.waits, .int .i64 x.halt, .slice bq3 x.ins.length bk3, .slice bq4 x.outs.length bk4, .int .i64 x.count], x) List.mem_cons_self).1.r.cell 0 _ rfl
    have bc1 := (S.out.box (X2, [.slice bq1 x.regs.length bk1, .int .i64 x.pc, .slice bq2 x.mem.length bk2, .int .i64 x.save, .bool x.lets, .bool x.waits, .int .i64 x.halt, .slice bq3 x.ins.length bk3, .slice bq4 x.outs.length bk4, .int .i64 x.count], x) List.mem_cons_self).1.r.cell 1 _ rfl
    have bc2 := (S.out.box (X2, [.slice bq1 x.regs.length bk1, .int .i64 x.pc, .slice bq2 x.mem.length bk2, .int .i64 x.save, .bool x.lets, .bool x.waits, .int .i64 x.halt, .slice bq3 x.ins.length bk3, .slice bq4 x.outs.length bk4, .int .i64 x.count], x) List.mem_cons_self).1.r.cell 2 _ rfl
    have bc3 := (S.out.box (X2, [.slice bq1 x.regs.length bk1, .int .i64 x.pc, .slice bq2 x.mem.length bk2, .int .i64 x.save, .bool x.lets, .bool x.waits, .int .i64 x.halt, .slice bq3 x.ins.length bk3, .slice bq4 x.outs.length bk4, .int .i64 x.count], x) List.mem_cons_self).1.r.cell 3 _ rfl
    have bc4 := (S.out.box (X2, [.slice bq1 x.regs.length bk1, .int .i64 x.pc, .slice bq2 x.mem.length bk2, .int .i64 x.save, .bool x.lets, .bool x.waits, .int .i64 x.halt, .slice bq3 x.ins.length bk3, .slice bq4 x.outs.length bk4, .int .i64 x.count], x) List.mem_cons_self).1.r.cell 4 _ rfl
    have bc5 := (S.out.box (X2, [.slice bq1 x.regs.length bk1, .int .i64 x.pc, .slice bq2 x.mem.length bk2, .int .i64 x.save, .bool x.lets, .bool x.waits, .int .i64 x.halt, .slice bq3 x.ins.length bk3, .slice bq4 x.outs.length bk4, .int .i64 x.count], x) List.mem_cons_self).1.r.cell 5 _ rfl
    have bc6 := (S.out.box (X2, [.slice bq1 x.regs.length bk1, .int .i64 x.pc, .slice bq2 x.mem.length bk2, .int .i64 x.save, .bool x.lets, .bool x.waits, .int .i64 x.halt, .slice bq3 x.ins.length bk3, .slice bq4 x.outs.length bk4, .int .i64 x.count], x) List.mem_cons_self).1.r.cell 6 _ rfl
    have bc7 := (S.out.box (X2, [.slice bq1 x.regs.length bk1, .int .i64 x.pc, .slice bq2 x.mem.length bk2, .int .i64 x.save, .bool x.lets, .bool x.waits, .int .i64 x.halt, .slice bq3 x.ins.length bk3, .slice bq4 x.outs.length bk4, .int .i64 x.count], x) List.mem_cons_self).1.r.cell 7 _ rfl
    have bc8 := (S.out.box (X2, [.slice bq1 x.regs.length bk1, .int .i64 x.pc, .slice bq2 x.mem.length bk2, .int .i64 x.save, .bool x.lets, .bool x.waits, .int .i64 x.halt, .slice bq3 x.ins.length bk3, .slice bq4 x.outs.length bk4, .int .i64 x.count], x) List.mem_cons_self).1.r.cell 8 _ rfl
    have bc9 := (S.out.box (X2, [.slice bq1 x.regs.length bk1, .int .i64 x.pc, .slice bq2 x.mem.length bk2, .int .i64 x.save, .bool x.lets, .bool x.waits, .int .i64 x.halt, .slice bq3 x.ins.length bk3, .slice bq4 x.outs.length bk4, .int .i64 x.count], x) List.mem_cons_self).1.r.cell 9 _ rfl
    go_wp2_with fail
    clear ac0 ac1 ac2 ac3 ac4 ac5 ac6 ac7 ac8 ac9
    clear bc0 bc1 bc2 bc3 bc4 bc5 bc6 bc7 bc8 bc9
    rcases HSI.out with e | ⟨y, e⟩
    · skip
      have HE := hide e
      clear e
      refine (wpIn_wide (n := 0)).1 ?_
      have S2 := hide S.out.drew
      clear S
      have S := S2
      clear S2
      refine PhaseIn.region (S := fun v => Sit w [(X2, [.slice bq1 x.regs.length bk1, .int .i64 x.pc, .slice bq2 x.mem.length bk2, .int .i64 x.save, .bool x.lets, .bool x.waits, .int .i64 x.halt, .slice bq3 x.ins.length bk3, .slice bq4 x.outs.length bk4, .int .i64 x.count], x), (X1, [.slice aq1 m.regs.length ak1, .int .i64 m.pc, .slice aq2 m.mem.length ak2, .int .i64 m.save, .bool m.lets, .bool m.waits, .int .i64 m.halt, .slice aq3 m.ins.length ak3, .slice aq4 m.outs.length ak4, .int .i64 m.count], m)] [] v) 20 (by kernel_rfl) ?_
      generalize wv6.drew = wv7 at *
      have hHeld := S.out
      clear S
      refine PhaseIn.takeD (i := 0) (v := ?_) [0, 1, 4, 5, 6, 7, 8, 9, 10, 11, 12, 13, 14, 15, 16, 17, 18, 19] 48 rfl (by rfl) (by kernel_rfl) (by kernel_rfl) (by kernel_rfl) (by kernel_rfl) (by kernel_rfl) (fun _ _ _ h => h) (Or.inl ⟨by kernel_rfl, ?_⟩) hHeld ?_
      rotate_left
      · intro w' hSw
        (try dsimp only at hSw)
        go_simp
        first | done | with_reducible rfl
      try simp only [Act.put, List.setIfInBounds_toArray, List.set]
      refine PhaseIn.takeD (i := 1) (v := ?_) [1, 4, 5, 6, 7, 8, 9, 10, 11, 12, 13, 14, 15, 16, 17, 18, 19] 49 rfl (by rfl) (by kernel_rfl) (by kernel_rfl) (by kernel_rfl) (by kernel_rfl) (by kernel_rfl) (fun _ _ _ h => h) (Or.inl ⟨by kernel_rfl, ?_⟩) hHeld ?_
      rotate_left
      · intro w' hSw
        (try dsimp only at hSw)
        have z7 := (hSw.box (X2, [.slice bq1 x.regs.length bk1, .int .i64 x.pc, .slice bq2 x.mem.length bk2, .int .i64 x.save, .bool x.lets, .bool x.waits, .int .i64 x.halt, .slice bq3 x.ins.length bk3, .slice bq4 x.outs.length bk4, .int .i64 x.count], x) List.mem_cons_self).1.r.cell 7 _ rfl
        go_simp
        first | done | with_reducible rfl
      try simp only [Act.put, List.setIfInBounds_toArray, List.set]
      refine PhaseIn.takeD (i := 2) (v := ?_) [2, 3, 4, 5, 6, 7, 8, 9, 10, 11, 12, 13, 14, 15, 16, 17, 18, 19] 50 rfl (by rfl) (by kernel_rfl) (by kernel_rfl) (by kernel_rfl) (by kernel_rfl) (by kernel_rfl) (fun _ _ _ h => h) (Or.inl ⟨by kernel_rfl, ?_⟩) hHeld ?_
      rotate_left
      · intro w' hSw
        (try dsimp only at hSw)
        go_simp
        first | done | with_reducible rfl
      try simp only [Act.put, List.setIfInBounds_toArray, List.set]
      refine PhaseIn.takeD (i := 3) (v := ?_) [3, 4, 5, 6, 7, 8, 9, 10, 11, 12, 13, 14, 15, 16, 17, 18, 19] 51 rfl (by rfl) (by kernel_rfl) (by kernel_rfl) (by kernel_rfl) (by kernel_rfl) (by kernel_rfl) (fun _ _ _ h => h) (Or.inl ⟨by kernel_rfl, ?_⟩) hHeld ?_
      rotate_left
      · intro w' hSw
        (try dsimp only at hSw)
        have z7 := (hSw.box (X1, [.slice aq1 m.regs.length ak1, .int .i64 m.pc, .slice aq2 m.mem.length ak2, .int .i64 m.save, .bool m.lets, .bool m.waits, .int .i64 m.halt, .slice aq3 m.ins.length ak3, .slice aq4 m.outs.length ak4, .int .i64 m.count], m) (List.mem_cons_of_mem _ List.mem_cons_self)).1.r.cell 7 _ rfl
        go_simp
        first | done | with_reducible rfl
      try simp only [Act.put, List.setIfInBounds_toArray, List.set]
      obtain ⟨B1, h1⟩ := (RMach.rows (m := x) (hHeld.box (X2, [.slice bq1 x.regs.length bk1, .int .i64 x.pc, .slice bq2 x.mem.length bk2, .int .i64 x.save, .bool x.lets, .bool x.waits, .int .i64 x.halt, .slice bq3 x.ins.length bk3, .slice bq4 x.outs.length bk4, .int .i64 x.count], x) List.mem_cons_self).2).2.2.1
      obtain ⟨B2, h2⟩ := (RMach.rows (m := m) (hHeld.box (X1, [.slice aq1 m.regs.length ak1, .int .i64 m.pc, .slice aq2 m.mem.length ak2, .int .i64 m.save, .bool m.lets, .bool m.waits, .int .i64 m.halt, .slice aq3 m.ins.length ak3, .slice aq4 m.outs.length ak4, .int .i64 m.count], m) (List.mem_cons_of_mem _ List.mem_cons_self)).2).2.2.1
      refine PhaseIn.one (i := 4) (by kernel_rfl) rfl (by kernel_rfl) (fun K hK => ?_)
      unfold Oper.wpIn
      refine ⟨fun _ _ => trivial, ?_⟩
      go_simp
      refine ⟨rfl, (callsIn_wide.2 (laSame h1 h2 HE.out)).mono ?_⟩
      rintro e wv8 ⟨rfl, hb⟩
      replace hHeld := hHeld.below hb
      clear hb
      refine hK _ _ (fun _ => hHeld) ?_
      clear hK K
      try simp only [Act.put, List.setIfInBounds_toArray, List.set]
      refine PhaseIn.takeD (i := 5) (v := ?_) [5, 6, 7, 8, 9, 10, 11, 12, 13, 14, 15, 16, 17, 18, 19] 53 rfl (by rfl) (by kernel_rfl) (by kernel_rfl) (by kernel_rfl) (by kernel_rfl) (by kernel_rfl) (fun _ _ _ h => h) (Or.inl ⟨by kernel_rfl, ?_⟩) hHeld ?_
      rotate_left
      · intro w' hSw
        (try dsimp only at hSw)
        go_simp
        first | done | with_reducible rfl
      try simp only [Act.put, List.setIfInBounds_toArray, List.set]
      refine PhaseIn.takeD (i := 6) (v := undef) [6, 7, 8, 9, 10, 11, 12, 13, 14, 15, 16, 17, 18, 19] 54 rfl (by rfl) (by kernel_rfl) (by kernel_rfl) (by kernel_rfl) (by kernel_rfl) (by kernel_rfl) (fun _ _ _ h => h) (Or.inr ⟨by kernel_rfl, rfl⟩) hHeld ?_
      try simp only [Act.put, List.setIfInBounds_toArray, List.set]
      refine PhaseIn.takeD (i := 7) (v := undef) [7, 8, 9, 10, 11, 12, 13, 14, 15, 16, 17, 18, 19] 55 rfl (by rfl) (by kernel_rfl) (by kernel_rfl) (by kernel_rfl) (by kernel_rfl) (by kernel_rfl) (fun _ _ _ h => h) (Or.inr ⟨by kernel_rfl, rfl⟩) hHeld ?_
      try simp only [Act.put, List.setIfInBounds_toArray, List.set]
      refine PhaseIn.takeD (i := 8) (v := undef) [8, 9, 10, 11, 12, 13, 14, 15, 16, 17, 18, 19] 56 rfl (by rfl) (by kernel_rfl) (by kernel_rfl) (by kernel_rfl) (by kernel_rfl) (by kernel_rfl) (fun _ _ _ h => h) (Or.inr ⟨by kernel_rfl, rfl⟩) hHeld ?_
      try simp only [Act.put, List.setIfInBounds_toArray, List.set]
      refine PhaseIn.takeD (i := 9) (v := undef) [9, 10, 11, 12, 13, 14, 15, 16, 17, 18, 19] 57 rfl (by rfl) (by kernel_rfl) (by kernel_rfl) (by kernel_rfl) (by kernel_rfl) (by kernel_rfl) (fun _ _ _ h => h) (Or.inr ⟨by kernel_rfl, rfl⟩) hHeld ?_
      try simp only [Act.put, List.setIfInBounds_toArray, List.set]
      refine PhaseIn.takeD (i := 10) (v := undef) [10, 11, 12, 13, 14, 15, 16, 17, 18, 19] 58 rfl (by rfl) (by kernel_rfl) (by kernel_rfl) (by kernel_rfl) (by kernel_rfl) (by kernel_rfl) (fun _ _ _ h => h) (Or.inr ⟨by kernel_rfl, rfl⟩) hHeld ?_
      try simp only [Act.put, List.setIfInBounds_toArray, List.set]
      refine PhaseIn.takeD (i := 11) (v := undef) [11, 12, 16, 17, 18, 19] 59 rfl (by rfl) (by kernel_rfl) (by kernel_rfl) (by kernel_rfl) (by kernel_rfl) (by kernel_rfl) (fun _ _ _ h => h) (Or.inr ⟨by kernel_rfl, rfl⟩) hHeld ?_
      try simp only [Act.put, List.setIfInBounds_toArray, List.set]
      refine PhaseIn.takeD (i := 12) (v := undef) [12, 16, 17, 18, 19] 60 rfl (by rfl) (by kernel_rfl) (by kernel_rfl) (by kernel_rfl) (by kernel_rfl) (by kernel_rfl) (fun _ _ _ h => h) (Or.inr ⟨by kernel_rfl, rfl⟩) hHeld ?_
      try simp only [Act.put, List.setIfInBounds_toArray, List.set]
      refine PhaseIn.takeD (i := 13) (v := undef) [13, 14, 15, 16, 17, 18, 19] 61 rfl (by rfl) (by kernel_rfl) (by kernel_rfl) (by kernel_rfl) (by kernel_rfl) (by kernel_rfl) (fun _ _ _ h => h) (Or.inr ⟨by kernel_rfl, rfl⟩) hHeld ?_
      try simp only [Act.put, List.setIfInBounds_toArray, List.set]
      refine PhaseIn.takeD (i := 14) (v := undef) [14, 15, 16, 17, 18, 19] 62 rfl (by rfl) (by kernel_rfl) (by kernel_rfl) (by kernel_rfl) (by kernel_rfl) (by kernel_rfl) (fun _ _ _ h => h) (Or.inr ⟨by kernel_rfl, rfl⟩) hHeld ?_
      try simp only [Act.put, List.setIfInBounds_toArray, List.set]
      refine PhaseIn.takeD (i := 15) (v := undef) [15, 16, 17, 18, 19] 63 rfl (by rfl) (by kernel_rfl) (by kernel_rfl) (by kernel_rfl) (by kernel_rfl) (by kernel_rfl) (fun _ _ _ h => h) (Or.inr ⟨by kernel_rfl, rfl⟩) hHeld ?_
      try simp only [Act.put, List.setIfInBounds_toArray, List.set]
      refine PhaseIn.takeD (i := 16) (v := undef) [16, 17, 18, 19] 64 rfl (by rfl) (by kernel_rfl) (by kernel_rfl) (by kernel_rfl) (by kernel_rfl) (by kernel_rfl) (fun _ _ _ h => h) (Or.inr ⟨by kernel_rfl, rfl⟩) hHeld ?_
      try simp only [Act.put, List.setIfInBounds_toArray, List.set]
      refine PhaseIn.takeD (i := 17) (v := undef) [17, 18, 19] 65 rfl (by rfl) (by kernel_rfl) (by kernel_rfl) (by kernel_rfl) (by kernel_rfl) (by kernel_rfl) (fun _ _ _ h => h) (Or.inr ⟨by kernel_rfl, rfl⟩) hHeld ?_
      try simp only [Act.put, List.setIfInBounds_toArray, List.set]
      refine PhaseIn.takeD (i := 18) (v := ?_) [18, 19] 66 rfl (by rfl) (by kernel_rfl) (by kernel_rfl) (by kernel_rfl) (by kernel_rfl) (by kernel_rfl) (fun _ _ _ h => h) (Or.inl ⟨by kernel_rfl, ?_⟩) hHeld ?_
      rotate_left
      · intro w' hSw
        (try dsimp only at hSw)
        go_simp
        first | done | with_reducible rfl
      try simp only [Act.put, List.setIfInBounds_toArray, List.set]
      refine PhaseIn.takeD (i := 19) (v := ?_) [19] 2 rfl (by rfl) (by kernel_rfl) (by kernel_rfl) (by kernel_rfl) (by kernel_rfl) (by kernel_rfl) (fun _ _ _ h => h) (Or.inl ⟨by kernel_rfl, ?_⟩) hHeld ?_
      rotate_left
      · intro w' hSw
        (try dsimp only at hSw)
        go_simp
        first | done | with_reducible rfl
      try simp only [Act.put, List.setIfInBounds_toArray, List.set]
      refine PhaseIn.done (by kernel_rfl) ?_ _
      have S := hide hHeld
      clear hHeld
      have FIN := hide S.out.bw
      clear S
      go_wp2
      go_ret
      exact ⟨rfl, FIN.out⟩
    · skip
      have HE := hide e
      have ne1 : m.ins ≠ [] := by rw [e]; simp
      clear e
      obtain ⟨iB, iO, rfl⟩ : ∃ b o : Nat, aq3 = some ⟨b, o, none⟩ := by obtain ⟨B, h⟩ := (RMach.rows (m := m) (S.out.box (X1, [.slice aq1 m.regs.length ak1, .int .i64 m.pc, .slice aq2 m.mem.length ak2, .int .i64 m.save, .bool m.lets, .bool m.waits, .int .i64 m.halt, .slice aq3 m.ins.length ak3, .slice aq4 m.outs.length ak4, .int .i64 m.count], m) (List.mem_cons_of_mem _ List.mem_cons_self)).2).2.2.1; obtain ⟨o, h⟩ := row_some h ne1; exact ⟨_, _, h⟩
      have el : m.ins.length = x.ins.length + 1 := by rw [HE.out]; rfl
      have l0 : (0 : Int) < ((x.ins.length : Nat) : Int) + 1 := by omega
      have l1 : (1 : Int) ≤ ((x.ins.length : Nat) : Int) + 1 := by omega
      clear ne1
      rw [el] at S ⊢
      clear el
      refine (wpIn_wide (n := 0)).1 ?_
      have S2 := hide S.out.drew
      clear S
      have S := S2
      clear S2
      refine PhaseIn.region (S := fun v => Sit w [(X2, [.slice bq1 x.regs.length bk1, .int .i64 x.pc, .slice bq2 x.mem.length bk2, .int .i64 x.save, .bool x.lets, .bool x.waits, .int .i64 x.halt, .slice bq3 x.ins.length bk3, .slice bq4 x.outs.length bk4, .int .i64 x.count], x), (X1, [.slice aq1 m.regs.length ak1, .int .i64 m.pc, .slice aq2 m.mem.length ak2, .int .i64 m.save, .bool m.lets, .bool m.waits, .int .i64 m.halt, .slice (some ⟨iB, iO, none⟩) (x.ins.length + 1) ak3, .slice aq4 m.outs.length ak4, .int .i64 m.count], m)] [] v) 20 (by kernel_rfl) ?_
      generalize wv6.drew = wv47 at *
      have hHeld := S.out
      clear S
      refine PhaseIn.takeD (i := 0) (v := ?_) [0, 1, 4, 5, 6, 7, 8, 9, 10, 11, 12, 13, 14, 15, 16, 17, 18, 19] 48 rfl (by rfl) (by kernel_rfl) (by kernel_rfl) (by kernel_rfl) (by kernel_rfl) (by kernel_rfl) (fun _ _ _ h => h) (Or.inl ⟨by kernel_rfl, ?_⟩) hHeld ?_
      rotate_left
      · intro w' hSw
        (try dsimp only at hSw)
        go_simp
        first | done | with_reducible rfl
      try simp only [Act.put, List.setIfInBounds_toArray, List.set]
      refine PhaseIn.takeD (i := 1) (v := ?_) [1, 4, 5, 6, 7, 8, 9, 10, 11, 12, 13, 14, 15, 16, 17, 18, 19] 49 rfl (by rfl) (by kernel_rfl) (by kernel_rfl) (by kernel_rfl) (by kernel_rfl) (by kernel_rfl) (fun _ _ _ h => h) (Or.inl ⟨by kernel_rfl, ?_⟩) hHeld ?_
      rotate_left
      · intro w' hSw
        (try dsimp only at hSw)
        have z7 := (hSw.box (X2, [.slice bq1 x.regs.length bk1, .int .i64 x.pc, .slice bq2 x.mem.length bk2, .int .i64 x.save, .bool x.lets, .bool x.waits, .int .i64 x.halt, .slice bq3 x.ins.length bk3, .slice bq4 x.outs.length bk4, .int .i64 x.count], x) List.mem_cons_self).1.r.cell 7 _ rfl
        go_simp
        first | done | with_reducible rfl
      try simp only [Act.put, List.setIfInBounds_toArray, List.set]
      refine PhaseIn.takeD (i := 2) (v := ?_) [2, 3, 4, 5, 6, 7, 8, 9, 10, 11, 12, 13, 14, 15, 16, 17, 18, 19] 50 rfl (by rfl) (by kernel_rfl) (by kernel_rfl) (by kernel_rfl) (by kernel_rfl) (by kernel_rfl) (fun _ _ _ h => h) (Or.inl ⟨by kernel_rfl, ?_⟩) hHeld ?_
      rotate_left
      · intro w' hSw
        (try dsimp only at hSw)
        go_simp
        first | done | with_reducible rfl
      try simp only [Act.put, List.setIfInBounds_toArray, List.set]
      refine PhaseIn.takeD (i := 3) (v := ?_) [3, 4, 5, 6, 7, 8, 9, 10, 11, 12, 13, 14, 15, 16, 17, 18, 19] 51 rfl (by rfl) (by kernel_rfl) (by kernel_rfl) (by kernel_rfl) (by kernel_rfl) (by kernel_rfl) (fun _ _ _ h => h) (Or.inl ⟨by kernel_rfl, ?_⟩) hHeld ?_
      rotate_left
      · intro w' hSw
        (try dsimp only at hSw)
        have z7 := (hSw.box (X1, [.slice aq1 m.regs.length ak1, .int .i64 m.pc, .slice aq2 m.mem.length ak2, .int .i64 m.save, .bool m.lets, .bool m.waits, .int .i64 m.halt, .slice (some ⟨iB, iO, none⟩) (x.ins.length + 1) ak3, .slice aq4 m.outs.length ak4, .int .i64 m.count], m) (List.mem_cons_of_mem _ List.mem_cons_self)).1.r.cell 7 _ rfl
        go_simp
        first | done | with_reducible rfl
      try simp only [Act.put, List.setIfInBounds_toArray, List.set]
      obtain ⟨B1, h1⟩ := (RMach.rows (m := x) (hHeld.box (X2, [.slice bq1 x.regs.length bk1, .int .i64 x.pc, .slice bq2 x.mem.length bk2, .int .i64 x.save, .bool x.lets, .bool x.waits, .int .i64 x.halt, .slice bq3 x.ins.length bk3, .slice bq4 x.outs.length bk4, .int .i64 x.count], x) List.mem_cons_self).2).2.2.1
      obtain ⟨B2, h2⟩ := (RMach.rows (m := m) (hHeld.box (X1, [.slice aq1 m.regs.length ak1, .int .i64 m.pc, .slice aq2 m.mem.length ak2, .int .i64 m.save, .bool m.lets, .bool m.waits, .int .i64 m.halt, .slice (some ⟨iB, iO, none⟩) (x.ins.length + 1) ak3, .slice aq4 m.outs.length ak4, .int .i64 m.count], m) (List.mem_cons_of_mem _ List.mem_cons_self)).2).2.2.1
      rw [HE.out] at h2
      refine PhaseIn.one (i := 4) (by kernel_rfl) rfl (by kernel_rfl) (fun K hK => ?_)
      unfold Oper.wpIn
      refine ⟨fun _ _ => trivial, ?_⟩
      go_simp
      refine ⟨rfl, (callsIn_wide.2 (laMore h1 h2)).mono ?_⟩
      rintro e wv48 ⟨rfl, hb⟩
      replace hHeld := hHeld.below hb
      clear hb
      refine hK _ _ (fun _ => hHeld) ?_
      clear hK K
      try simp only [Act.put, List.setIfInBounds_toArray, List.set]
      refine PhaseIn.takeD (i := 5) (v := ?_) [5, 6, 7, 8, 9, 10, 11, 12, 13, 14, 15, 16, 17, 18, 19] 53 rfl (by rfl) (by kernel_rfl) (by kernel_rfl) (by kernel_rfl) (by kernel_rfl) (by kernel_rfl) (fun _ _ _ h => h) (Or.inl ⟨by kernel_rfl, ?_⟩) hHeld ?_
      rotate_left
      · intro w' hSw
        (try dsimp only at hSw)
        go_simp
        first | done | with_reducible rfl
      try simp only [Act.put, List.setIfInBounds_toArray, List.set]
      refine PhaseIn.takeD (i := 6) (v := ?_) [6, 7, 8, 9, 10, 11, 12, 13, 14, 15, 16, 17, 18, 19] 54 rfl (by rfl) (by kernel_rfl) (by kernel_rfl) (by kernel_rfl) (by kernel_rfl) (by kernel_rfl) (fun _ _ _ h => h) (Or.inl ⟨by kernel_rfl, ?_⟩) hHeld ?_
      rotate_left
      · intro w' hSw
        (try dsimp only at hSw)
        go_simp
        first | done | with_reducible rfl
      try simp only [Act.put, List.setIfInBounds_toArray, List.set]
      refine PhaseIn.takeD (i := 7) (v := ?_) [7, 8, 9, 10, 11, 12, 13, 14, 15, 16, 17, 18, 19] 55 rfl (by rfl) (by kernel_rfl) (by kernel_rfl) (by kernel_rfl) (by kernel_rfl) (by kernel_rfl) (fun _ _ _ h => h) (Or.inl ⟨by kernel_rfl, ?_⟩) hHeld ?_
      rotate_left
      · intro w' hSw
        (try dsimp only at hSw)
        have z7 := (hSw.box (X1, [.slice aq1 m.regs.length ak1, .int .i64 m.pc, .slice aq2 m.mem.length ak2, .int .i64 m.save, .bool m.lets, .bool m.waits, .int .i64 m.halt, .slice (some ⟨iB, iO, none⟩) (x.ins.length + 1) ak3, .slice aq4 m.outs.length ak4, .int .i64 m.count], m) (List.mem_cons_of_mem _ List.mem_cons_self)).1.r.cell 7 _ rfl
        go_simp
        first | done | with_reducible rfl
      try simp only [Act.put, List.setIfInBounds_toArray, List.set]
      refine PhaseIn.takeD (i := 8) (v := ?_) [8, 9, 10, 11, 12, 13, 14, 15, 16, 17, 18, 19] 56 rfl (by rfl) (by kernel_rfl) (by kernel_rfl) (by kernel_rfl) (by kernel_rfl) (by kernel_rfl) (fun _ _ _ h => h) (Or.inl ⟨by kernel_rfl, ?_⟩) hHeld ?_
      rotate_left
      · intro w' hSw
        (try dsimp only at hSw)
        go_simp
        first | done | with_reducible rfl
      try simp only [Act.put, List.setIfInBounds_toArray, List.set]
      refine PhaseIn.takeD (i := 9) (v := ?_) [9, 10, 11, 12, 13, 14, 15, 16, 17, 18, 19] 57 rfl (by rfl) (by kernel_rfl) (by kernel_rfl) (by kernel_rfl) (by kernel_rfl) (by kernel_rfl) (fun _ _ _ h => h) (Or.inl ⟨by kernel_rfl, ?_⟩) hHeld ?_
      rotate_left
      · intro w' hSw
        (try dsimp only at hSw)
        go_simp
        first | done | with_reducible rfl
      try simp only [Act.put, List.setIfInBounds_toArray, List.set]
      refine PhaseIn.takeD (i := 10) (v := ?_) [10, 11, 12, 13, 14, 15, 16, 17, 18, 19] 58 rfl (by rfl) (by kernel_rfl) (by kernel_rfl) (by kernel_rfl) (by kernel_rfl) (by kernel_rfl) (fun _ _ _ h => h) (Or.inl ⟨by kernel_rfl, ?_⟩) hHeld ?_
      rotate_left
      · intro w' hSw
        (try dsimp only at hSw)
        go_simp
        first | done | with_reducible rfl
      try simp only [Act.put, List.setIfInBounds_toArray, List.set]
      refine PhaseIn.takeD (i := 11) (v := ?_) [11, 12, 16, 17, 18, 19] 59 rfl (by rfl) (by kernel_rfl) (by kernel_rfl) (by kernel_rfl) (by kernel_rfl) (by kernel_rfl) (fun _ _ _ h => h) (Or.inl ⟨by kernel_rfl, ?_⟩) hHeld ?_
      rotate_left
      · intro w' hSw
        (try dsimp only at hSw)
        go_simp
        first | done | with_reducible rfl
      try simp only [Act.put, List.setIfInBounds_toArray, List.set]
      refine PhaseIn.takeD (i := 12) (v := ?_) [12, 16, 17, 18, 19] 60 rfl (by rfl) (by kernel_rfl) (by kernel_rfl) (by kernel_rfl) (by kernel_rfl) (by kernel_rfl) (fun _ _ _ h => h) (Or.inl ⟨by kernel_rfl, ?_⟩) hHeld ?_
      rotate_left
      · intro w' hSw
        (try dsimp only at hSw)
        have z7 := (hSw.box (X2, [.slice bq1 x.regs.length bk1, .int .i64 x.pc, .slice bq2 x.mem.length bk2, .int .i64 x.save, .bool x.lets, .bool x.waits, .int .i64 x.halt, .slice bq3 x.ins.length bk3, .slice bq4 x.outs.length bk4, .int .i64 x.count], x) List.mem_cons_self).1.r.cell 7 _ rfl
        go_simp
        first | done | with_reducible rfl
      try simp only [Act.put, List.setIfInBounds_toArray, List.set]
      refine PhaseIn.takeD (i := 13) (v := ?_) [13, 14, 15, 16, 17, 18, 19] 61 rfl (by rfl) (by kernel_rfl) (by kernel_rfl) (by kernel_rfl) (by kernel_rfl) (by kernel_rfl) (fun _ _ _ h => h) (Or.inl ⟨by kernel_rfl, ?_⟩) hHeld ?_
      rotate_left
      · intro w' hSw
        (try dsimp only at hSw)
        go_simp
        first | done | with_reducible rfl
      try simp only [Act.put, List.setIfInBounds_toArray, List.set]
      refine PhaseIn.takeD (i := 14) (v := ?_) [14, 15, 16, 17, 18, 19] 62 rfl (by rfl) (by kernel_rfl) (by kernel_rfl) (by kernel_rfl) (by kernel_rfl) (by kernel_rfl) (fun _ _ _ h => h) (Or.inl ⟨by kernel_rfl, ?_⟩) hHeld ?_
      rotate_left
      · intro w' hSw
        (try dsimp only at hSw)
        have z7 := (hSw.box (X1, [.slice aq1 m.regs.length ak1, .int .i64 m.pc, .slice aq2 m.mem.length ak2, .int .i64 m.save, .bool m.lets, .bool m.waits, .int .i64 m.halt, .slice (some ⟨iB, iO, none⟩) (x.ins.length + 1) ak3, .slice aq4 m.outs.length ak4, .int .i64 m.count], m) (List.mem_cons_of_mem _ List.mem_cons_self)).1.r.cell 7 _ rfl
        go_simp
        first | done | with_reducible rfl
      try simp only [Act.put, List.setIfInBounds_toArray, List.set]
      refine PhaseIn.takeD (i := 15) (v := ?_) [15, 16, 17, 18, 19] 63 rfl (by rfl) (by kernel_rfl) (by kernel_rfl) (by kernel_rfl) (by kernel_rfl) (by kernel_rfl) (fun _ _ _ h => h) (Or.inl ⟨by kernel_rfl, ?_⟩) hHeld ?_
      rotate_left
      · intro w' hSw
        (try dsimp only at hSw)
        go_simp
        first | done | with_reducible rfl
      try simp only [Act.put, List.setIfInBounds_toArray, List.set]
      obtain ⟨B1, h1⟩ := (RMach.rows (m := x) (hHeld.box (X2, [.slice bq1 x.regs.length bk1, .int .i64 x.pc, .slice bq2 x.mem.length bk2, .int .i64 x.save, .bool x.lets, .bool x.waits, .int .i64 x.halt, .slice bq3 x.ins.length bk3, .slice bq4 x.outs.length bk4, .int .i64 x.count], x) List.mem_cons_self).2).2.2.1
      obtain ⟨B2, h2⟩ := (RMach.rows (m := m) (hHeld.box (X1, [.slice aq1 m.regs.length ak1, .int .i64 m.pc, .slice aq2 m.mem.length ak2, .int .i64 m.save, .bool m.lets, .bool m.waits, .int .i64 m.halt, .slice (some ⟨iB, iO, none⟩) (x.ins.length + 1) ak3, .slice aq4 m.outs.length ak4, .int .i64 m.count], m) (List.mem_cons_of_mem _ List.mem_cons_self)).2).2.2.1
      rw [HE.out] at h2
      refine PhaseIn.one (i := 16) (by kernel_rfl) rfl (by kernel_rfl) (fun K hK => ?_)
      unfold Oper.wpIn
      refine ⟨fun _ _ => trivial, ?_⟩
      go_simp
      refine ⟨rfl, (callsIn_wide.2 (laTail h1 h2 rfl)).mono ?_⟩
      rintro e wv49 ⟨rfl, hb⟩
      replace hHeld := hHeld.below hb
      clear hb
      refine hK _ _ (fun _ => hHeld) ?_
      clear hK K
      try simp only [Act.put, List.setIfInBounds_toArray, List.set]
      refine PhaseIn.takeD (i := 17) (v := ?_) [17, 18, 19] 65 rfl (by rfl) (by kernel_rfl) (by kernel_rfl) (by kernel_rfl) (by kernel_rfl) (by kernel_rfl) (fun _ _ _ h => h) (Or.inl ⟨by kernel_rfl, ?_⟩) hHeld ?_
      rotate_left
      · intro w' hSw
        (try dsimp only at hSw)
        go_simp
        first | done | with_reducible rfl
      try simp only [Act.put, List.setIfInBounds_toArray, List.set]
      refine PhaseIn.takeD (i := 18) (v := ?_) [18, 19] 66 rfl (by rfl) (by kernel_rfl) (by kernel_rfl) (by kernel_rfl) (by kernel_rfl) (by kernel_rfl) (fun _ _ _ h => h) (Or.inl ⟨by kernel_rfl, ?_⟩) hHeld ?_
      rotate_left
      · intro w' hSw
        (try dsimp only at hSw)
        go_simp
        first | done | with_reducible rfl
      try simp only [Act.put, List.setIfInBounds_toArray, List.set]
      refine PhaseIn.takeD (i := 19) (v := ?_) [19] 2 rfl (by rfl) (by kernel_rfl) (by kernel_rfl) (by kernel_rfl) (by kernel_rfl) (by kernel_rfl) (fun _ _ _ h => h) (Or.inl ⟨by kernel_rfl, ?_⟩) hHeld ?_
      rotate_left
      · intro w' hSw
        (try dsimp only at hSw)
        go_simp
        first | done | with_reducible rfl
      try simp only [Act.put, List.setIfInBounds_toArray, List.set]
      refine PhaseIn.done (by kernel_rfl) ?_ _
      have S := hide hHeld
      clear hHeld
      have FIN := hide S.out.bw
      clear S
      go_wp2
      all_goals (go_ret; exact ⟨rfl, FIN.out⟩)

set_option maxRecDepth 100000 in
theorem lifted (os : Os) (started : os.Started) (H : Type) (enc : TypeId × Value → H) :
    ReturnsInHanded {} Tryz.checked os 4 .any (Rows.fnMchPortsSpec.pre6 enc Tryz.prog Tryz.f4 Rows.fnMchPortsRow.domain false) (Rows.fnMchPortsSpec.post enc Tryz.prog Tryz.f4 false true false false) := by
  refine returnsInHanded_of_change (C := Tryz.checked) own started (by kernel_rfl) Tryz.func4
    (ChangeSpec.witness6 (enc := enc) (C := Tryz.checked) false ⟨#[], #[.slice none 0 0], []⟩ 8 (by kernel_rfl) (by kernel_rfl) (by kernel_rfl) (by kernel_rfl)) ?_
  intro W base args ds gs before hval0 hW hcnd _
  have hval : ∀ (j : Nat) t v, Tryz.f4.params[j]? = some t → args[j]? = some v → Value.okWide Tryz.prog W .any base t v := hval0
  have hW' := hW
  obtain ⟨p, q, hA0, hV, rfl, hfz, hnd⟩ := hW
  have hA : DataW.TrodAll enc Tryz.prog W 0 (fun _ => true) true Tryz.f4.params.toList args.toList ds p := hA0
  rw [Tryz.params4] at hA hval
  obtain ⟨v0, vs0, d0, ds0, p0, q0, hargs, rfl, rfl, h0, r0⟩ := trodAll_cons hA
  obtain ⟨rfl, rfl, rfl⟩ := trodAll_nil r0
  obtain rfl : args = #[v0] := by cases args; simp_all
  obtain ⟨rfl, rfl⟩ := trodVars_none hV
  obtain ⟨a0, len0, cap0, rfl⟩ := okWide_slice Tryz.underlying22 (hval 0 22 v0 rfl rfl)
  have k0 := h0
  have lt0 : ∀ x ∈ p0, x.block < W.heap.size := by obtain ⟨m, hm⟩ := k0; exact DataW.trod_lt m _ _ _ hm
  obtain ⟨z0, w0⟩ : ∃ zs, IsRow .u8 W a0 len0 cap0 zs := by
    obtain ⟨fuel, hf⟩ := h0
    rcases open_ints Tryz.underlying22 Tryz.underlying5 (by kernel_rfl) hf with ⟨hcs, _⟩ | ⟨x, l, c, zs, hcs, _, hl, hm, hz, _, hcell, hwz⟩
    · simp [Value.cells] at hcs
      obtain ⟨rfl, rfl, rfl⟩ := hcs
      exact ⟨[], .inl ⟨rfl, rfl, rfl, rfl⟩⟩
    · simp [Value.cells] at hcs
      obtain ⟨rfl, rfl, rfl⟩ := hcs
      exact ⟨zs, .inr ⟨_, rfl, hl, hm, by simpa using hz, hcell, hwz⟩⟩
  clear hA0 hval0
  refine (walk a0 len0 cap0 z0 W w0).mono fun e W' ⟨he, bel⟩ => ?_
  subst he
  exact ⟨_, rfl, _, _, _, [], _, [], hW', trodAll_mk1 (shut_bool Tryz.underlying4 _), (trodAll_cons_mk (Below.trod laidOut (by kernel_rfl) (of_decide_eq_true (by kernel_rfl)) k0 bel lt0) trodAll_mk0), rfl, bel.frame _, fun h => by cases h⟩

theorem over : Rows.fnMchPortsRow.holds Tryz.pinned (OpenSpec.ofChange Rows.fnMchPortsSpec) :=
  OpenClaim.holds_of_wide 4 Tryz.f4 rfl rfl rfl rfl rfl rfl rfl ⟨rfl, rfl, rfl, rfl, rfl⟩ rfl rfl rfl rfl rfl (by kernel_rfl) Tryz.func4 (by kernel_rfl)
    (of_decide_eq_true (by kernel_rfl)) (by unfold Func.isWrapper; first | (rw [if_pos (by decide +kernel)]; kernel_rfl) | (rw [if_neg (by decide +kernel)]; exact ⟨rfl, rfl⟩))
    (fun os started H enc _ => lifted os started H enc)

theorem proved : Rows.FnMchPortsSaid := over
#print axioms proved
end Go.Proofs.YtnhpmbhphbphaaaGreat.fnMchPorts
