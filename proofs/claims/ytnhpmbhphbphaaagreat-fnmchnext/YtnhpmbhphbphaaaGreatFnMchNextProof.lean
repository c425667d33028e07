/-
  At every code of bytes the law FnMchNext returns true (P61: a step that does neither go, ask nor stop leads to the place behind; one that asks leads there, or to its number); no condition.
  The frame (the steps lifted, over, proved) is the guide's shell, written by its program; the walk and the lemmas ahead of it are mine.
-/
import Derived.Test.YtnhpmbhphbphaaaGreatRows
import Derived.WalkKit
import Derived.ProofKit
import Derived.OpenShut
import Derived.Test.YtnhpmbhphbphaaaGreatSit
import Derived.Test.YtnhpmbhphbphaaaGreatMpC
import Derived.ShutString
import Derived.ChangeOld
import Derived.Below
namespace Go.Proofs.YtnhpmbhphbphaaaGreat.fnMchNext
open Go.ChangeShapes Go.WideShapes Go.ChangeAt Go.RowKit
open Go.ChangeMaps (open_string shut_string)
set_option linter.unusedVariables false

theorem own : ownKnob Tryz.prog.godebug = none := by kernel_rfl
theorem laidOut : laidOutB Tryz.prog = true := by kernel_rfl

def IsRow (k : IntKind) (w : World) (a : Option Addr) (len cap : Nat) (zs : List Int) : Prop :=
  (a = none ∧ len = 0 ∧ cap = 0 ∧ zs = []) ∨
  ∃ x, a = some x ∧ len ≤ cap ∧ cap ≤ maxLen ∧ zs.length = cap ∧ (∀ i, i < zs.length → w.cell? (x.add i) = some (.int k (zs.getD i 0))) ∧ ∀ n ∈ zs, (Lit.int k n).wf = true

open IntS Mch
set_option linter.unusedVariables false
set_option linter.unusedSimpArgs false

set_option maxRecDepth 8000 in
set_option maxHeartbeats 16000000 in
theorem walk (a0 : Option Addr) (len0 cap0 : Nat) (z0 : List Int) (w : World) (w0 : IsRow .u8 w a0 len0 cap0 z0) :
    Calls Tryz.prog 9 #[.slice a0 len0 cap0] w fun e w' => e = .returned (.bool true) ∧ Below w.heap.size w w' := by
  obtain ⟨hlc, hm, hc⟩ := Draw.code_row w a0 len0 cap0 z0 w0
  by_cases hl : 1048576 < len0
  · unfold maxLen at hm
    go_enter Tryz.func9, Tryz.ntmps9
    go_wp2
    go_ret
    exact ⟨rfl, Below.refl _ _⟩
  clear w0
  go_enter Tryz.func9, Tryz.ntmps9
  go_wp2_with fail
  refine (Draw.drawStep a0 len0 cap0 _ hlc hm hc).mono ?_
  rintro e va ⟨c, m, irq, rfl, MC, MF, hb⟩
  have FM := hide MF
  have S0 : Hid (Sit w [] [] va) := ⟨hb, fun b h => absurd h (by simp), fun r h => absurd h (by simp)⟩
  have M0 := MC.write.read
  clear hc hm hlc hb MC MF
  have S := S0
  clear S0
  obtain ⟨aq1, aq2, aq3, aq4, ak1, ak2, ak3, ak4, rfl⟩ := rforms M0
  have S2 := hide (Sit.add S.out M0)
  simp only [mv] at M0 S2 ⊢
  clear S M0
  have S := S2
  clear S2
  go_wp2_with fail
  generalize hZ : va.heap.size = X1 at S ⊢
  clear hZ
  generalize va.alloc (.cells #[.slice aq1 m.regs.length ak1, .int .i64 m.pc, .slice aq2 m.mem.length ak2, .int .i64 m.save, .bool m.lets, .bool m.waits, .int .i64 m.halt, .slice aq3 m.ins.length ak3, .slice aq4 m.outs.length ak4, .int .i64 m.count] 25) = wv1 at S ⊢
  have ac0 := (S.out.box (X1, [.slice aq1 m.regs.length ak1, .int .i64 m.pc, .slice aq2 m.mem.length ak2, .int .i64 m.save, .bool m.lets, .bool m.waits, .int .i64 m.halt, .slice aq3 m.ins.length ak3, .slice aq4 m.outs.length ak4, .int .i64 m.count], m) List.mem_cons_self).1.r.cell 0 _ rfl
  have ac1 := (S.out.box (X1, [.slice aq1 m.regs.length ak1, .int .i64 m.pc, .slice aq2 m.mem.length ak2, .int .i64 m.save, .bool m.lets, .bool m.waits, .int .i64 m.halt, .slice aq3 m.ins.length ak3, .slice aq4 m.outs.length ak4, .int .i64 m.count], m) List.mem_cons_self).1.r.cell 1 _ rfl
  have ac2 := (S.out.box (X1, [.slice aq1 m.regs.length ak1, .int .i64 m.pc, .slice aq2 m.mem.length ak2, .int .i64 m.save, .bool m.lets, .bool m.waits, .int .i64 m.halt, .slice aq3 m.ins.length ak3, .slice aq4 m.outs.length ak4, .int .i64 m.count], m) List.mem_cons_self).1.r.cell 2 _ rfl
  have ac3 := (S.out.box (X1, [.slice aq1 m.regs.length ak1, .int .i64 m.pc, .slice aq2 m.mem.length ak2, .int .i64 m.save, .bool m.lets, .bool m.waits, .int .i64 m.halt, .slice aq3 m.ins.length ak3, .slice aq4 m.outs.length ak4, .int .i64 m.count], m) List.mem_cons_self).1.r.cell 3 _ rfl
  have ac4 := (S.out.box (X1, [.slice aq1 m.regs.length ak1, .int .i64 m.pc, .slice aq2 m.mem.length ak2, .int .i64 m.save, .bool m.lets, .bool m.waits, .int .i64 m.halt, .slice aq3 m.ins.length ak3, .slice aq4 m.outs.length ak4, .int .i64 m.count], m) List.mem_cons_self).1.r.cell 4 _ rfl
  have ac5 := (S.out.box (X1, [.slice aq1 m.regs.length ak1, .int .i64 m.pc, .slice aq2 m.mem.length ak2, .int .i64 m.save, .bool m.lets, .bool m.waits, .int .i64 m.halt, .slice aq3 m.ins.length ak3, .slice aq4 m.outs.length ak4, .int .i64 m.count], m) List.mem_cons_self).1.r.cell 5 _ rfl
  have ac6 := (S.out.box (X1, [.slice aq1 m.regs.length ak1, .int .i64 m.pc, .slice aq2 m.mem.length ak2, .int .i64 m.save, .bool m.lets, .bool m.waits, .int .i64 m.halt, .slice aq3 m.ins.length ak3, .slice aq4 m.outs.length ak4, .int .i64 m.count], m) List.mem_cons_self).1.r.cell 6 _ rfl
  have ac7 := (S.out.box (X1, [.slice aq1 m.regs.length ak1, .int .i64 m.pc, .slice aq2 m.mem.length ak2, .int .i64 m.save, .bool m.lets, .bool m.waits, .int .i64 m.halt, .slice aq3 m.ins.length ak3, .slice aq4 m.outs.length ak4, .int .i64 m.count], m) List.mem_cons_self).1.r.cell 7 _ rfl
  have ac8 := (S.out.box (X1, [.slice aq1 m.regs.length ak1, .int .i64 m.pc, .slice aq2 m.mem.length ak2, .int .i64 m.save, .bool m.lets, .bool m.waits, .int .i64 m.halt, .slice aq3 m.ins.length ak3, .slice aq4 m.outs.length ak4, .int .i64 m.count], m) List.mem_cons_self).1.r.cell 8 _ rfl
  have ac9 := (S.out.box (X1, [.slice aq1 m.regs.length ak1, .int .i64 m.pc, .slice aq2 m.mem.length ak2, .int .i64 m.save, .bool m.lets, .bool m.waits, .int .i64 m.halt, .slice aq3 m.ins.length ak3, .slice aq4 m.outs.length ak4, .int .i64 m.count], m) List.mem_cons_self).1.r.cell 9 _ rfl
  obtain ⟨ok, eo⟩ : ∃ ok, okM m = ok := ⟨_, rfl⟩
  have EO := hide eo
  clear eo
  refine (Mch.mchOk m _ _ (S.out.box (X1, [.slice aq1 m.regs.length ak1, .int .i64 m.pc, .slice aq2 m.mem.length ak2, .int .i64 m.save, .bool m.lets, .bool m.waits, .int .i64 m.halt, .slice aq3 m.ins.length ak3, .slice aq4 m.outs.length ak4, .int .i64 m.count], m) List.mem_cons_self).2).mono ?_
  rintro e wv2 ⟨rfl, hb⟩
  rw [EO.out]
  have S2 := hide (S.out.below hb)
  clear S
  have S := S2
  clear S2
  clear hb
  clear ac0 ac1 ac2 ac3 ac4 ac5 ac6 ac7 ac8 ac9
  cases ok with
  | false =>
    have ac0 := (S.out.box (X1, [.slice aq1 m.regs.length ak1, .int .i64 m.pc, .slice aq2 m.mem.length ak2, .int .i64 m.save, .bool m.lets, .bool m.waits, .int .i64 m.halt, .slice aq3 m.ins.length ak3, .slice aq4 m.outs.length ak4, .int .i64 m.count], m) List.mem_cons_self).1.r.cell 0 _ rfl
    have ac1 := (S.out.box (X1, [.slice aq1 m.regs.length ak1, .int .i64 m.pc, .slice aq2 m.mem.length ak2, .int .i64 m.save, .bool m.lets, .bool m.waits, .int .i64 m.halt, .slice aq3 m.ins.length ak3, .slice aq4 m.outs.length ak4, .int .i64 m.count], m) List.mem_cons_self).1.r.cell 1 _ rfl
    have ac2 := (S.out.box (X1, [.slice aq1 m.regs.length ak1, .int .i64 m.pc, .slice aq2 m.mem.length ak2, .int .i64 m.save, .bool m.lets, .bool m.waits, .int .i64 m.halt, .slice aq3 m.ins.length ak3, .slice aq4 m.outs.length ak4, .int .i64 m.count], m) List.mem_cons_self).1.r.cell 2 _ rfl
    have ac3 := (S.out.box (X1, [.slice aq1 m.regs.length ak1, .int .i64 m.pc, .slice aq2 m.mem.length ak2, .int .i64 m.save, .bool m.lets, .bool m.waits, .int .i64 m.halt, .slice aq3 m.ins.length ak3, .slice aq4 m.outs.length ak4, .int .i64 m.count], m) List.mem_cons_self).1.r.cell 3 _ rfl
    have ac4 := (S.out.box (X1, [.slice aq1 m.regs.length ak1, .int .i64 m.pc, .slice aq2 m.mem.length ak2, .int .i64 m.save, .bool m.lets, .bool m.waits, .int .i64 m.halt, .slice aq3 m.ins.length ak3, .slice aq4 m.outs.length ak4, .int .i64 m.count], m) List.mem_cons_self).1.r.cell 4 _ rfl
    have ac5 := (S.out.box (X1, [.slice aq1 m.regs.length ak1, .int .i64 m.pc, .slice aq2 m.mem.length ak2, .int .i64 m.save, .bool m.lets, .bool m.waits, .int .i64 m.halt, .slice aq3 m.ins.length ak3, .slice aq4 m.outs.length ak4, .int .i64 m.count], m) List.mem_cons_self).1.r.cell 5 _ rfl
    have ac6 := (S.out.box (X1, [.slice aq1 m.regs.length ak1, .int .i64 m.pc, .slice aq2 m.mem.length ak2, .int .i64 m.save, .bool m.lets, .bool m.waits, .int .i64 m.halt, .slice aq3 m.ins.length ak3, .slice aq4 m.outs.length ak4, .int .i64 m.count], m) List.mem_cons_self).1.r.cell 6 _ rfl
    have ac7 := (S.out.box (X1, [.slice aq1 m.regs.length ak1, .int .i64 m.pc, .slice aq2 m.mem.length ak2, .int .i64 m.save, .bool m.lets, .bool m.waits, .int .i64 m.halt, .slice aq3 m.ins.length ak3, .slice aq4 m.outs.length ak4, .int .i64 m.count], m) List.mem_cons_self).1.r.cell 7 _ rfl
    have ac8 := (S.out.box (X1, [.slice aq1 m.regs.length ak1, .int .i64 m.pc, .slice aq2 m.mem.length ak2, .int .i64 m.save, .bool m.lets, .bool m.waits, .int .i64 m.halt, .slice aq3 m.ins.length ak3, .slice aq4 m.outs.length ak4, .int .i64 m.count], m) List.mem_cons_self).1.r.cell 8 _ rfl
    have ac9 := (S.out.box (X1, [.slice aq1 m.regs.length ak1, .int .i64 m.pc, .slice aq2 m.mem.length ak2, .int .i64 m.save, .bool m.lets, .bool m.waits, .int .i64 m.halt, .slice aq3 m.ins.length ak3, .slice aq4 m.outs.length ak4, .int .i64 m.count], m) List.mem_cons_self).1.r.cell 9 _ rfl
    go_wp2_with fail
    refine (La.laOk _).mono ?_
    rintro e u ⟨rfl, rfl⟩
    have FIN := hide S.out.bw
    clear S
    go_wp2
    go_ret
    exact ⟨rfl, FIN.out⟩
  | true =>
    cases hw : m.waits with
    | true =>
      have ac0 := (S.out.box (X1, [.slice aq1 m.regs.length ak1, .int .i64 m.pc, .slice aq2 m.mem.length ak2, .int .i64 m.save, .bool m.lets, .bool m.waits, .int .i64 m.halt, .slice aq3 m.ins.length ak3, .slice aq4 m.outs.length ak4, .int .i64 m.count], m) List.mem_cons_self).1.r.cell 0 _ rfl
      have ac1 := (S.out.box (X1, [.slice aq1 m.regs.length ak1, .int .i64 m.pc, .slice aq2 m.mem.length ak2, .int .i64 m.save, .bool m.lets, .bool m.waits, .int .i64 m.halt, .slice aq3 m.ins.length ak3, .slice aq4 m.outs.length ak4, .int .i64 m.count], m) List.mem_cons_self).1.r.cell 1 _ rfl
      have ac2 := (S.out.box (X1, [.slice aq1 m.regs.length ak1, .int .i64 m.pc, .slice aq2 m.mem.length ak2, .int .i64 m.save, .bool m.lets, .bool m.waits, .int .i64 m.halt, .slice aq3 m.ins.length ak3, .slice aq4 m.outs.length ak4, .int .i64 m.count], m) List.mem_cons_self).1.r.cell 2 _ rfl
      have ac3 := (S.out.box (X1, [.slice aq1 m.regs.length ak1, .int .i64 m.pc, .slice aq2 m.mem.length ak2, .int .i64 m.save, .bool m.lets, .bool m.waits, .int .i64 m.halt, .slice aq3 m.ins.length ak3, .slice aq4 m.outs.length ak4, .int .i64 m.count], m) List.mem_cons_self).1.r.cell 3 _ rfl
      have ac4 := (S.out.box (X1, [.slice aq1 m.regs.length ak1, .int .i64 m.pc, .slice aq2 m.mem.length ak2, .int .i64 m.save, .bool m.lets, .bool m.waits, .int .i64 m.halt, .slice aq3 m.ins.length ak3, .slice aq4 m.outs.length ak4, .int .i64 m.count], m) List.mem_cons_self).1.r.cell 4 _ rfl
      have ac5 := (S.out.box (X1, [.slice aq1 m.regs.length ak1, .int .i64 m.pc, .slice aq2 m.mem.length ak2, .int .i64 m.save, .bool m.lets, .bool m.waits, .int .i64 m.halt, .slice aq3 m.ins.length ak3, .slice aq4 m.outs.length ak4, .int .i64 m.count], m) List.mem_cons_self).1.r.cell 5 _ rfl
      have ac6 := (S.out.box (X1, [.slice aq1 m.regs.length ak1, .int .i64 m.pc, .slice aq2 m.mem.length ak2, .int .i64 m.save, .bool m.lets, .bool m.waits, .int .i64 m.halt, .slice aq3 m.ins.length ak3, .slice aq4 m.outs.length ak4, .int .i64 m.count], m) List.mem_cons_self).1.r.cell 6 _ rfl
      have ac7 := (S.out.box (X1, [.slice aq1 m.regs.length ak1, .int .i64 m.pc, .slice aq2 m.mem.length ak2, .int .i64 m.save, .bool m.lets, .bool m.waits, .int .i64 m.halt, .slice aq3 m.ins.length ak3, .slice aq4 m.outs.length ak4, .int .i64 m.count], m) List.mem_cons_self).1.r.cell 7 _ rfl
      have ac8 := (S.out.box (X1, [.slice aq1 m.regs.length ak1, .int .i64 m.pc, .slice aq2 m.mem.length ak2, .int .i64 m.save, .bool m.lets, .bool m.waits, .int .i64 m.halt, .slice aq3 m.ins.length ak3, .slice aq4 m.outs.length ak4, .int .i64 m.count], m) List.mem_cons_self).1.r.cell 8 _ rfl
      have ac9 := (S.out.box (X1, [.slice aq1 m.regs.length ak1, .int .i64 m.pc, .slice aq2 m.mem.length ak2, .int .i64 m.save, .bool m.lets, .bool m.waits, .int .i64 m.halt, .slice aq3 m.ins.length ak3, .slice aq4 m.outs.length ak4, .int .i64 m.count], m) List.mem_cons_self).1.r.cell 9 _ rfl
      go_wp2_with fail
      refine (La.laOk _).mono ?_
      rintro e u ⟨rfl, rfl⟩
      have FIN := hide S.out.bw
      clear S
      go_wp2
      go_ret
      exact ⟨rfl, FIN.out⟩
    | false =>
      by_cases hc : ¬ m.halt = 0
      · have n0 : (m.halt != 0) = true := bne_iff_ne.2 hc
        have ac0 := (S.out.box (X1, [.slice aq1 m.regs.length ak1, .int .i64 m.pc, .slice aq2 m.mem.length ak2, .int .i64 m.save, .bool m.lets, .bool m.waits, .int .i64 m.halt, .slice aq3 m.ins.length ak3, .slice aq4 m.outs.length ak4, .int .i64 m.count], m) List.mem_cons_self).1.r.cell 0 _ rfl
        have ac1 := (S.out.box (X1, [.slice aq1 m.regs.length ak1, .int .i64 m.pc, .slice aq2 m.mem.length ak2, .int .i64 m.save, .bool m.lets, .bool m.waits, .int .i64 m.halt, .slice aq3 m.ins.length ak3, .slice aq4 m.outs.length ak4, .int .i64 m.count], m) List.mem_cons_self).1.r.cell 1 _ rfl
        have ac2 := (S.out.box (X1, [.slice aq1 m.regs.length ak1, .int .i64 m.pc, .slice aq2 m.mem.length ak2, .int .i64 m.save, .bool m.lets, .bool m.waits, .int .i64 m.halt, .slice aq3 m.ins.length ak3, .slice aq4 m.outs.length ak4, .int .i64 m.count], m) List.mem_cons_self).1.r.cell 2 _ rfl
        have ac3 := (S.out.box (X1, [.slice aq1 m.regs.length ak1, .int .i64 m.pc, .slice aq2 m.mem.length ak2, .int .i64 m.save, .bool m.lets, .bool m.waits, .int .i64 m.halt, .slice aq3 m.ins.length ak3, .slice aq4 m.outs.length ak4, .int .i64 m.count], m) List.mem_cons_self).1.r.cell 3 _ rfl
        have ac4 := (S.out.box (X1, [.slice aq1 m.regs.length ak1, .int .i64 m.pc, .slice aq2 m.mem.length ak2, .int .i64 m.save, .bool m.lets, .bool m.waits, .int .i64 m.halt, .slice aq3 m.ins.length ak3, .slice aq4 m.outs.length ak4, .int .i64 m.count], m) List.mem_cons_self).1.r.cell 4 _ rfl
        have ac5 := (S.out.box (X1, [.slice aq1 m.regs.length ak1, .int .i64 m.pc, .slice aq2 m.mem.length ak2, .int .i64 m.save, .bool m.lets, .bool m.waits, .int .i64 m.halt, .slice aq3 m.ins.length ak3, .slice aq4 m.outs.length ak4, .int .i64 m.count], m) List.mem_cons_self).1.r.cell 5 _ rfl
        have ac6 := (S.out.box (X1, [.slice aq1 m.regs.length ak1, .int .i64 m.pc, .slice aq2 m.mem.length ak2, .int .i64 m.save, .bool m.lets, .bool m.waits, .int .i64 m.halt, .slice aq3 m.ins.length ak3, .slice aq4 m.outs.length ak4, .int .i64 m.count], m) List.mem_cons_self).1.r.cell 6 _ rfl
        have ac7 := (S.out.box (X1, [.slice aq1 m.regs.length ak1, .int .i64 m.pc, .slice aq2 m.mem.length ak2, .int .i64 m.save, .bool m.lets, .bool m.waits, .int .i64 m.halt, .slice aq3 m.ins.length ak3, .slice aq4 m.outs.length ak4, .int .i64 m.count], m) List.mem_cons_self).1.r.cell 7 _ rfl
        have ac8 := (S.out.box (X1, [.slice aq1 m.regs.length ak1, .int .i64 m.pc, .slice aq2 m.mem.length ak2, .int .i64 m.save, .bool m.lets, .bool m.waits, .int .i64 m.halt, .slice aq3 m.ins.length ak3, .slice aq4 m.outs.length ak4, .int .i64 m.count], m) List.mem_cons_self).1.r.cell 8 _ rfl
        have ac9 := (S.out.box (X1, [.slice aq1 m.regs.length ak1, .int .i64 m.pc, .slice aq2 m.mem.length ak2, .int .i64 m.save, .bool m.lets, .bool m.waits, .int .i64 m.halt, .slice aq3 m.ins.length ak3, .slice aq4 m.outs.length ak4, .int .i64 m.count], m) List.mem_cons_self).1.r.cell 9 _ rfl
        go_wp2_with fail
        refine (La.laOk _).mono ?_
        rintro e u ⟨rfl, rfl⟩
        have FIN := hide S.out.bw
        clear S
        go_wp2
        go_ret
        exact ⟨rfl, FIN.out⟩
      have hh : m.halt = 0 := Classical.byContradiction hc
      have n0 : (m.halt != 0) = false := by rw [hh]; rfl
      clear hc
      by_cases hc : m.count = 1000000
      · have n1 : (m.count == 1000000) = true := by rw [hc]; rfl
        have ac0 := (S.out.box (X1, [.slice aq1 m.regs.length ak1, .int .i64 m.pc, .slice aq2 m.mem.length ak2, .int .i64 m.save, .bool m.lets, .bool m.waits, .int .i64 m.halt, .slice aq3 m.ins.length ak3, .slice aq4 m.outs.length ak4, .int .i64 m.count], m) List.mem_cons_self).1.r.cell 0 _ rfl
        have ac1 := (S.out.box (X1, [.slice aq1 m.regs.length ak1, .int .i64 m.pc, .slice aq2 m.mem.length ak2, .int .i64 m.save, .bool m.lets, .bool m.waits, .int .i64 m.halt, .slice aq3 m.ins.length ak3, .slice aq4 m.outs.length ak4, .int .i64 m.count], m) List.mem_cons_self).1.r.cell 1 _ rfl
        have ac2 := (S.out.box (X1, [.slice aq1 m.regs.length ak1, .int .i64 m.pc, .slice aq2 m.mem.length ak2, .int .i64 m.save, .bool m.lets, .bool m.waits, .int .i64 m.halt, .slice aq3 m.ins.length ak3, .slice aq4 m.outs.length ak4, .int .i64 m.count], m) List.mem_cons_self).1.r.cell 2 _ rfl
        have ac3 := (S.out.box (X1, [.slice aq1 m.regs.length ak1, .int .i64 m.pc, .slice aq2 m.mem.length ak2, .int .i64 m.save, .bool m.lets, .bool m.waits, .int .i64 m.halt, .slice aq3 m.ins.length ak3, .slice aq4 m.outs.length ak4, .int .i64 m.count], m) List.mem_cons_self).1.r.cell 3 _ rfl
        have ac4 := (S.out.box (X1, [.slice aq1 m.regs.length ak1, .int .i64 m.pc, .slice aq2 m.mem.length ak2, .int .i64 m.save, .bool m.lets, .bool m.waits, .int .i64 m.halt, .slice aq3 m.ins.length ak3, .slice aq4 m.outs.length ak4, .int .i64 m.count], m) List.mem_cons_self).1.r.cell 4 _ rfl
        have ac5 := (S.out.box (X1, [.slice aq1 m.regs.length ak1, .int .i64 m.pc, .slice aq2 m.mem.length ak2, .int .i64 m.save, .bool m.lets, .bool m.waits, .int .i64 m.halt, .slice aq3 m.ins.length ak3, .slice aq4 m.outs.length ak4, .int .i64 m.count], m) List.mem_cons_self).1.r.cell 5 _ rfl
        have ac6 := (S.out.box (X1, [.slice aq1 m.regs.length ak1, .int .i64 m.pc, .slice aq2 m.mem.length ak2, .int .i64 m.save, .bool m.lets, .bool m.waits, .int .i64 m.halt, .slice aq3 m.ins.length ak3, .slice aq4 m.outs.length ak4, .int .i64 m.count], m) List.mem_cons_self).1.r.cell 6 _ rfl
        have ac7 := (S.out.box (X1, [.slice aq1 m.regs.length ak1, .int .i64 m.pc, .slice aq2 m.mem.length ak2, .int .i64 m.save, .bool m.lets, .bool m.waits, .int .i64 m.halt, .slice aq3 m.ins.length ak3, .slice aq4 m.outs.length ak4, .int .i64 m.count], m) List.mem_cons_self).1.r.cell 7 _ rfl
        have ac8 := (S.out.box (X1, [.slice aq1 m.regs.length ak1, .int .i64 m.pc, .slice aq2 m.mem.length ak2, .int .i64 m.save, .bool m.lets, .bool m.waits, .int .i64 m.halt, .slice aq3 m.ins.length ak3, .slice aq4 m.outs.length ak4, .int .i64 m.count], m) List.mem_cons_self).1.r.cell 8 _ rfl
        have ac9 := (S.out.box (X1, [.slice aq1 m.regs.length ak1, .int .i64 m.pc, .slice aq2 m.mem.length ak2, .int .i64 m.save, .bool m.lets, .bool m.waits, .int .i64 m.halt, .slice aq3 m.ins.length ak3, .slice aq4 m.outs.length ak4, .int .i64 m.count], m) List.mem_cons_self).1.r.cell 9 _ rfl
        go_wp2_with fail
        refine (La.laOk _).mono ?_
        rintro e u ⟨rfl, rfl⟩
        have FIN := hide S.out.bw
        clear S
        go_wp2
        go_ret
        exact ⟨rfl, FIN.out⟩
      have hcn : m.count ≠ 1000000 := hc
      have n1 : (m.count == 1000000) = false := beq_eq_false_iff_ne.2 hc
      clear hc
      by_cases hc : 64 ≤ m.pc
      · skip
        have ac0 := (S.out.box (X1, [.slice aq1 m.regs.length ak1, .int .i64 m.pc, .slice aq2 m.mem.length ak2, .int .i64 m.save, .bool m.lets, .bool m.waits, .int .i64 m.halt, .slice aq3 m.ins.length ak3, .slice aq4 m.outs.length ak4, .int .i64 m.count], m) List.mem_cons_self).1.r.cell 0 _ rfl
        have ac1 := (S.out.box (X1, [.slice aq1 m.regs.length ak1, .int .i64 m.pc, .slice aq2 m.mem.length ak2, .int .i64 m.save, .bool m.lets, .bool m.waits, .int .i64 m.halt, .slice aq3 m.ins.length ak3, .slice aq4 m.outs.length ak4, .int .i64 m.count], m) List.mem_cons_self).1.r.cell 1 _ rfl
        have ac2 := (S.out.box (X1, [.slice aq1 m.regs.length ak1, .int .i64 m.pc, .slice aq2 m.mem.length ak2, .int .i64 m.save, .bool m.lets, .bool m.waits, .int .i64 m.halt, .slice aq3 m.ins.length ak3, .slice aq4 m.outs.length ak4, .int .i64 m.count], m) List.mem_cons_self).1.r.cell 2 _ rfl
        have ac3 := (S.out.box (X1, [.slice aq1 m.regs.length ak1, .int .i64 m.pc, .slice aq2 m.mem.length ak2, .int .i64 m.save, .bool m.lets, .bool m.waits, .int .i64 m.halt, .slice aq3 m.ins.length ak3, .slice aq4 m.outs.length ak4, .int .i64 m.count], m) List.mem_cons_self).1.r.cell 3 _ rfl
        have ac4 := (S.out.box (X1, [.slice aq1 m.regs.length ak1, .int .i64 m.pc, .slice aq2 m.mem.length ak2, .int .i64 m.save, .bool m.lets, .bool m.waits, .int .i64 m.halt, .slice aq3 m.ins.length ak3, .slice aq4 m.outs.length ak4, .int .i64 m.count], m) List.mem_cons_self).1.r.cell 4 _ rfl
        have ac5 := (S.out.box (X1, [.slice aq1 m.regs.length ak1, .int .i64 m.pc, .slice aq2 m.mem.length ak2, .int .i64 m.save, .bool m.lets, .bool m.waits, .int .i64 m.halt, .slice aq3 m.ins.length ak3, .slice aq4 m.outs.length ak4, .int .i64 m.count], m) List.mem_cons_self).1.r.cell 5 _ rfl
        have ac6 := (S.out.box (X1, [.slice aq1 m.regs.length ak1, .int .i64 m.pc, .slice aq2 m.mem.length ak2, .int .i64 m.save, .bool m.lets, .bool m.waits, .int .i64 m.halt, .slice aq3 m.ins.length ak3, .slice aq4 m.outs.length ak4, .int .i64 m.count], m) List.mem_cons_self).1.r.cell 6 _ rfl
        have ac7 := (S.out.box (X1, [.slice aq1 m.regs.length ak1, .int .i64 m.pc, .slice aq2 m.mem.length ak2, .int .i64 m.save, .bool m.lets, .bool m.waits, .int .i64 m.halt, .slice aq3 m.ins.length ak3, .slice aq4 m.outs.length ak4, .int .i64 m.count], m) List.mem_cons_self).1.r.cell 7 _ rfl
        have ac8 := (S.out.box (X1, [.slice aq1 m.regs.length ak1, .int .i64 m.pc, .slice aq2 m.mem.length ak2, .int .i64 m.save, .bool m.lets, .bool m.waits, .int .i64 m.halt, .slice aq3 m.ins.length ak3, .slice aq4 m.outs.length ak4, .int .i64 m.count], m) List.mem_cons_self).1.r.cell 8 _ rfl
        have ac9 := (S.out.box (X1, [.slice aq1 m.regs.length ak1, .int .i64 m.pc, .slice aq2 m.mem.length ak2, .int .i64 m.save, .bool m.lets, .bool m.waits, .int .i64 m.halt, .slice aq3 m.ins.length ak3, .slice aq4 m.outs.length ak4, .int .i64 m.count], m) List.mem_cons_self).1.r.cell 9 _ rfl
        go_wp2_with fail
        refine (La.laOk _).mono ?_
        rintro e u ⟨rfl, rfl⟩
        have FIN := hide S.out.bw
        clear S
        go_wp2
        go_ret
        exact ⟨rfl, FIN.out⟩
      have hp : m.pc < 64 := by omega
      have OM := okM_of EO.out
      have mr := OM.regs
      have mm := OM.mem
      have pb := OM.p
      have wr4 := OM.wr
      clear OM
      obtain ⟨v, hv⟩ : ∃ v, m.mem.getD m.pc.toNat 0 = v := ⟨_, rfl⟩
      have KD := next_kind EO.out hw hh hcn hp v hv
      obtain ⟨x, ex⟩ : ∃ x, stepM m false = x := ⟨_, rfl⟩
      rw [ex] at KD
      have EX := hide ex
      clear ex
      obtain ⟨P, hP⟩ : ∃ P : Nat, m.pc = (P : Int) := ⟨m.pc.toNat, by omega⟩
      have P64 : P < 64 := by omega
      have gv : m.mem[P]? = some v := by
        rw [← hv, hP, Int.toNat_natCast, List.getD_eq_getElem?_getD, List.getElem?_eq_getElem (by omega)]
        rfl
      have lp : (P : Int) < ((m.mem.length : Nat) : Int) := by omega
      have GV := hide gv
      have WR := hide wr4
      have MR := hide mr
      have LMM := hide mm
      clear gv hv wr4
      obtain ⟨mB1, mO1, rfl⟩ : ∃ b o : Nat, aq1 = some ⟨b, o, none⟩ := by obtain ⟨B, h⟩ := (RMach.rows (m := m) (S.out.box (X1, [.slice aq1 m.regs.length ak1, .int .i64 m.pc, .slice aq2 m.mem.length ak2, .int .i64 m.save, .bool m.lets, .bool m.waits, .int .i64 m.halt, .slice aq3 m.ins.length ak3, .slice aq4 m.outs.length ak4, .int .i64 m.count], m) List.mem_cons_self).2).1; obtain ⟨o, h⟩ := row_some h (by intro h; rw [h] at mr; cases mr); exact ⟨_, _, h⟩
      obtain ⟨mB2, mO2, rfl⟩ : ∃ b o : Nat, aq2 = some ⟨b, o, none⟩ := by obtain ⟨B, h⟩ := (RMach.rows (m := m) (S.out.box (X1, [.slice (some ⟨mB1, mO1, none⟩) m.regs.length ak1, .int .i64 m.pc, .slice aq2 m.mem.length ak2, .int .i64 m.save, .bool m.lets, .bool m.waits, .int .i64 m.halt, .slice aq3 m.ins.length ak3, .slice aq4 m.outs.length ak4, .int .i64 m.count], m) List.mem_cons_self).2).2.1; obtain ⟨o, h⟩ := row_some h (by intro h; rw [h] at mm; cases mm); exact ⟨_, _, h⟩
      clear mr mm pb
      replace KD := hide KD
      have HPP := hide hP
      clear hP hh hcn lp
      have ac0 := (S.out.box (X1, [.slice (some ⟨mB1, mO1, none⟩) m.regs.length ak1, .int .i64 m.pc, .slice (some ⟨mB2, mO2, none⟩) m.mem.length ak2, .int .i64 m.save, .bool m.lets, .bool m.waits, .int .i64 m.halt, .slice aq3 m.ins.length ak3, .slice aq4 m.outs.length ak4, .int .i64 m.count], m) List.mem_cons_self).1.r.cell 0 _ rfl
      have ac1 := (S.out.box (X1, [.slice (some ⟨mB1, mO1, none⟩) m.regs.length ak1, .int .i64 m.pc, .slice (some ⟨mB2, mO2, none⟩) m.mem.length ak2, .int .i64 m.save, .bool m.lets, .bool m.waits, .int .i64 m.halt, .slice aq3 m.ins.length ak3, .slice aq4 m.outs.length ak4, .int .i64 m.count], m) List.mem_cons_self).1.r.cell 1 _ rfl
      have ac2 := (S.out.box (X1, [.slice (some ⟨mB1, mO1, none⟩) m.regs.length ak1, .int .i64 m.pc, .slice (some ⟨mB2, mO2, none⟩) m.mem.length ak2, .int .i64 m.save, .bool m.lets, .bool m.waits, .int .i64 m.halt, .slice aq3 m.ins.length ak3, .slice aq4 m.outs.length ak4, .int .i64 m.count], m) List.mem_cons_self).1.r.cell 2 _ rfl
      have ac3 := (S.out.box (X1, [.slice (some ⟨mB1, mO1, none⟩) m.regs.length ak1, .int .i64 m.pc, .slice (some ⟨mB2, mO2, none⟩) m.mem.length ak2, .int .i64 m.save, .bool m.lets, .bool m.waits, .int .i64 m.halt, .slice aq3 m.ins.length ak3, .slice aq4 m.outs.length ak4, .int .i64 m.count], m) List.mem_cons_self).1.r.cell 3 _ rfl
      have ac4 := (S.out.box (X1, [.slice (some ⟨mB1, mO1, none⟩) m.regs.length ak1, .int .i64 m.pc, .slice (some ⟨mB2, mO2, none⟩) m.mem.length ak2, .int .i64 m.save, .bool m.lets, .bool m.waits, .int .i64 m.halt, .slice aq3 m.ins.length ak3, .slice aq4 m.outs.length ak4, .int .i64 m.count], m) List.mem_cons_self).1.r.cell 4 _ rfl
      have ac5 := (S.out.box (X1, [.slice (some ⟨mB1, mO1, none⟩) m.regs.length ak1, .int .i64 m.pc, .slice (some ⟨mB2, mO2, none⟩) m.mem.length ak2, .int .i64 m.save, .bool m.lets, .bool m.waits, .int .i64 m.halt, .slice aq3 m.ins.length ak3, .slice aq4 m.outs.length ak4, .int .i64 m.count], m) List.mem_cons_self).1.r.cell 5 _ rfl
      have ac6 := (S.out.box (X1, [.slice (some ⟨mB1, mO1, none⟩) m.regs.length ak1, .int .i64 m.pc, .slice (some ⟨mB2, mO2, none⟩) m.mem.length ak2, .int .i64 m.save, .bool m.lets, .bool m.waits, .int .i64 m.halt, .slice aq3 m.ins.length ak3, .slice aq4 m.outs.length ak4, .int .i64 m.count], m) List.mem_cons_self).1.r.cell 6 _ rfl
      have ac7 := (S.out.box (X1, [.slice (some ⟨mB1, mO1, none⟩) m.regs.length ak1, .int .i64 m.pc, .slice (some ⟨mB2, mO2, none⟩) m.mem.length ak2, .int .i64 m.save, .bool m.lets, .bool m.waits, .int .i64 m.halt, .slice aq3 m.ins.length ak3, .slice aq4 m.outs.length ak4, .int .i64 m.count], m) List.mem_cons_self).1.r.cell 7 _ rfl
      have ac8 := (S.out.box (X1, [.slice (some ⟨mB1, mO1, none⟩) m.regs.length ak1, .int .i64 m.pc, .slice (some ⟨mB2, mO2, none⟩) m.mem.length ak2, .int .i64 m.save, .bool m.lets, .bool m.waits, .int .i64 m.halt, .slice aq3 m.ins.length ak3, .slice aq4 m.outs.length ak4, .int .i64 m.count], m) List.mem_cons_self).1.r.cell 8 _ rfl
      have ac9 := (S.out.box (X1, [.slice (some ⟨mB1, mO1, none⟩) m.regs.length ak1, .int .i64 m.pc, .slice (some ⟨mB2, mO2, none⟩) m.mem.length ak2, .int .i64 m.save, .bool m.lets, .bool m.waits, .int .i64 m.halt, .slice aq3 m.ins.length ak3, .slice aq4 m.outs.length ak4, .int .i64 m.count], m) List.mem_cons_self).1.r.cell 9 _ rfl
      go_wp2_with fail
      have RMM := (S.out.box (X1, [.slice (some ⟨mB1, mO1, none⟩) m.regs.length ak1, .int .i64 m.pc, .slice (some ⟨mB2, mO2, none⟩) m.mem.length ak2, .int .i64 m.save, .bool m.lets, .bool m.waits, .int .i64 m.halt, .slice aq3 m.ins.length ak3, .slice aq4 m.outs.length ak4, .int .i64 m.count], m) List.mem_cons_self).2
      simp only [hw] at RMM
      refine (MchI.mchStep m false _ _ RMM FM.out.near.mid).mono ?_
      rintro e wv3 ⟨c2, rfl, M1, hb⟩
      have M2 := M1.read
      rw [EX.out] at M2
      clear M1 RMM
      have S2 := hide (S.out.below hb)
      clear S
      have S := S2
      clear S2
      clear hb
      clear hw hp
      clear ac0 ac1 ac2 ac3 ac4 ac5 ac6 ac7 ac8 ac9
      obtain ⟨bq1, bq2, bq3, bq4, bk1, bk2, bk3, bk4, rfl⟩ := rforms M2
      have S2 := hide (Sit.add S.out M2)
      simp only [mv] at M2 S2 ⊢
      clear S M2
      have S := S2
      clear S2
      have ac0 := (S.out.box (X1, [.slice (some ⟨mB1, mO1, none⟩) m.regs.length ak1, .int .i64 m.pc, .slice (some ⟨mB2, mO2, none⟩) m.mem.length ak2, .int .i64 m.save, .bool m.lets, .bool m.waits, .int .i64 m.halt, .slice aq3 m.ins.length ak3, .slice aq4 m.outs.length ak4, .int .i64 m.count], m) (List.mem_cons_of_mem _ List.mem_cons_self)).1.r.cell 0 _ rfl
      have ac1 := (S.out.box (X1, [.slice (some ⟨mB1, mO1, none⟩) m.regs.length ak1, .int .i64 m.pc, .slice (some ⟨mB2, mO2, none⟩) m.mem.length ak2, .int .i64 m.save, .bool m.lets, .bool m.waits, .int .i64 m.halt, .slice aq3 m.ins.length ak3, .slice aq4 m.outs.length ak4, .int .i64 m.count], m) (List.mem_cons_of_mem _ List.mem_cons_self)).1.r.cell 1 _ rfl
      have ac2 := (S.out.box (X1, [.slice (some ⟨mB1, mO1, none⟩) m.regs.length ak1, .int .i64 m.pc, .slice (some ⟨mB2, mO2, none⟩) m.mem.length ak2, .int .i64 m.save, .bool m.lets, .bool m.waits, .int .i64 m.halt, .slice aq3 m.ins.length ak3, .slice aq4 m.outs.length ak4, .int .i64 m.count], m) (List.mem_cons_of_mem _ List.mem_cons_self)).1.r.cell 2 _ rfl
      have ac3 := (S.out.box (X1, [.slice (some ⟨mB1, mO1, none⟩) m.regs.length ak1, .int .i64 m.pc, .slice (some ⟨mB2, mO2, none⟩) m.mem.length ak2, .int .i64 m.save, .bool m.lets, .bool m.waits, .int .i64 m.halt, .slice aq3 m.ins.length ak3, .slice aq4 m.outs.length ak4, .int .i64 m.count], m) (List.mem_cons_of_mem _ List.mem_cons_self)).1.r.cell 3 _ rfl
      have ac4 := (S.out.box (X1, [.slice (some ⟨mB1, mO1, none⟩) m.regs.length ak1, .int .i64 m.pc, .slice (some ⟨mB2, mO2, none⟩) m.mem.length ak2, .int .i64 m.save, .bool m.lets, .bool m.waits, .int .i64 m.halt, .slice aq3 m.ins.length ak3, .slice aq4 m.outs.length ak4, .int .i64 m.count], m) (List.mem_cons_of_mem _ List.mem_cons_self)).1.r.cell 4 _ rfl
      have ac5 := (S.out.box (X1, [.slice (some ⟨mB1, mO1, none⟩) m.regs.length ak1, .int .i64 m.pc, .slice (some ⟨mB2, mO2, none⟩) m.mem.length ak2, .int .i64 m.save, .bool m.lets, .bool m.waits, .int .i64 m.halt, .slice aq3 m.ins.length ak3, .slice aq4 m.outs.length ak4, .int .i64 m.count], m) (List.mem_cons_of_mem _ List.mem_cons_self)).1.r.cell 5 _ rfl
      have ac6 := (S.out.box (X1, [.slice (some ⟨mB1, mO1, none⟩) m.regs.length ak1, .int .i64 m.pc, .slice (some ⟨mB2, mO2, none⟩) m.mem.length ak2, .int .i64 m.save, .bool m.lets, .bool m.waits, .int .i64 m.halt, .slice aq3 m.ins.length ak3, .slice aq4 m.outs.length ak4, .int .i64 m.count], m) (List.mem_cons_of_mem _ List.mem_cons_self)).1.r.cell 6 _ rfl
      have ac7 := (S.out.box (X1, [.slice (some ⟨mB1, mO1, none⟩) m.regs.length ak1, .int .i64 m.pc, .slice (some ⟨mB2, mO2, none⟩) m.mem.length ak2, .int .i64 m.save, .bool m.lets, .bool m.waits, .int .i64 m.halt, .slice aq3 m.ins.length ak3, .slice aq4 m.outs.length ak4, .int .i64 m.count], m) (List.mem_cons_of_mem _ List.mem_cons_self)).1.r.cell 7 _ rfl
      have ac8 := (S.out.box (X1, [.slice (some ⟨mB1, mO1, none⟩) m.regs.length ak1, .int .i64 m.pc, .slice (some ⟨mB2, mO2, none⟩) m.mem.length ak2, .int .i64 m.save, .bool m.lets, .bool m.waits, .int .i64 m.halt, .slice aq3 m.ins.length ak3, .slice aq4 m.outs.length ak4, .int .i64 m.count], m) (List.mem_cons_of_mem _ List.mem_cons_self)).1.r.cell 8 _ rfl
      have ac9 := (S.out.box (X1, [.slice (some ⟨mB1, mO1, none⟩) m.regs.length ak1, .int .i64 m.pc, .slice (some ⟨mB2, mO2, none⟩) m.mem.length ak2, .int .i64 m.save, .bool m.lets, .bool m.waits, .int .i64 m.halt, .slice aq3 m.ins.length ak3, .slice aq4 m.outs.length ak4, .int .i64 m.count], m) (List.mem_cons_of_mem _ List.mem_cons_self)).1.r.cell 9 _ rfl
      have hP := HPP.out
      have lp : (P : Int) < ((m.mem.length : Nat) : Int) := by have := LMM.out; omega
      obtain ⟨_, hrow⟩ := (RMach.rows (m := m) (S.out.box (X1, [.slice (some ⟨mB1, mO1, none⟩) m.regs.length ak1, .int .i64 m.pc, .slice (some ⟨mB2, mO2, none⟩) m.mem.length ak2, .int .i64 m.save, .bool m.lets, .bool m.waits, .int .i64 m.halt, .slice aq3 m.ins.length ak3, .slice aq4 m.outs.length ak4, .int .i64 m.count], m) (List.mem_cons_of_mem _ List.mem_cons_self)).2).2.1
      have cv := row_cell hrow GV.out
      clear hrow
      go_wp2_with fail
      clear cv hP lp
      clear ac0 ac1 ac2 ac3 ac4 ac5 ac6 ac7 ac8 ac9
      generalize hZ : wv3.heap.size = X2 at S ⊢
      clear hZ
      generalize wv3.alloc (.cells #[.slice bq1 x.regs.length bk1, .int .i64 x.pc, .slice bq2 x.mem.length bk2, .int .i64 x.save, .bool x.lets, .bool x.waits, .int .i64 x.halt, .slice bq3 x.ins.length bk3, .slice bq4 x.outs.length bk4, .int .i64 x.count] 25) = wv4 at S ⊢
      refine (InsI.insTake v _).mono ?_
      rintro e wv5 ⟨rfl, hb⟩
      have S2 := hide (S.out.below hb)
      clear S
      have S := S2
      clear S2
      clear hb
      rcases KD.out with ⟨tb, k1, k2⟩ | ⟨tb, KD⟩
      · rw [Blk.takeC_no tb, tb]
        have f1 : (x.halt == 2) = true := by rw [k1]; rfl
        have f2 : (x.pc == m.pc) = true := by rw [k2]; simp
        have f3 : (x.pc == (P : Int)) = true := by rw [k2, HPP.out]; simp
        clear k1 k2 tb
        have S2 := hide (S.out.below ((Below.refl _ _).alloc (Nat.le_refl _) (.cells #[.int .i64 0, .int .i64 0, .int .i64 0, .int .i64 0] 38)))
        clear S
        have S := S2
        clear S2
        have ac0 := (S.out.box (X1, [.slice (some ⟨mB1, mO1, none⟩) m.regs.length ak1, .int .i64 m.pc, .slice (some ⟨mB2, mO2, none⟩) m.mem.length ak2, .int .i64 m.save, .bool m.lets, .bool m.waits, .int .i64 m.halt, .slice aq3 m.ins.length ak3, .slice aq4 m.outs.length ak4, .int .i64 m.count], m) (List.mem_cons_of_mem _ List.mem_cons_self)).1.r.cell 0 _ rfl
        have ac1 := (S.out.box (X1, [.slice (some ⟨mB1, mO1, none⟩) m.regs.length ak1, .int .i64 m.pc, .slice (some ⟨mB2, mO2, none⟩) m.mem.length ak2, .int .i64 m.save, .bool m.lets, .bool m.waits, .int .i64 m.halt, .slice aq3 m.ins.length ak3, .slice aq4 m.outs.length ak4, .int .i64 m.count], m) (List.mem_cons_of_mem _ List.mem_cons_self)).1.r.cell 1 _ rfl
        have ac2 := (S.out.box (X1, [.slice (some ⟨mB1, mO1, none⟩) m.regs.length ak1, .int .i64 m.pc, .slice (some ⟨mB2, mO2, none⟩) m.mem.length ak2, .int .i64 m.save, .bool m.lets, .bool m.waits, .int .i64 m.halt, .slice aq3 m.ins.length ak3, .slice aq4 m.outs.length ak4, .int .i64 m.count], m) (List.mem_cons_of_mem _ List.mem_cons_self)).1.r.cell 2 _ rfl
        have ac3 := (S.out.box (X1, [.slice (some ⟨mB1, mO1, none⟩) m.regs.length ak1, .int .i64 m.pc, .slice (some ⟨mB2, mO2, none⟩) m.mem.length ak2, .int .i64 m.save, .bool m.lets, .bool m.waits, .int .i64 m.halt, .slice aq3 m.ins.length ak3, .slice aq4 m.outs.length ak4, .int .i64 m.count], m) (List.mem_cons_of_mem _ List.mem_cons_self)).1.r.cell 3 _ rfl
        have ac4 := (S.out.box (X1, [.slice (some ⟨mB1, mO1, none⟩) m.regs.length ak1, .int .i64 m.pc, .slice (some ⟨mB2, mO2, none⟩) m.mem.length ak2, .int .i64 m.save, .bool m.lets, .bool m.waits, .int .i64 m.halt, .slice aq3 m.ins.length ak3, .slice aq4 m.outs.length ak4, .int .i64 m.count], m) (List.mem_cons_of_mem _ List.mem_cons_self)).1.r.cell 4 _ rfl
        have ac5 := (S.out.box (X1, [.slice (some ⟨mB1, mO1, none⟩) m.regs.length ak1, .int .i64 m.pc, .slice (some ⟨mB2, mO2, none⟩) m.mem.length ak2, .int .i64 m.save, .bool m.lets, .bool m.waits, .int .i64 m.halt, .slice aq3 m.ins.length ak3, .slice aq4 m.outs.length ak4, .int .i64 m.count], m) (List.mem_cons_of_mem _ List.mem_cons_self)).1.r.cell 5 _ rfl
        have ac6 := (S.out.box (X1, [.slice (some ⟨mB1, mO1, none⟩) m.regs.length ak1, .int .i64 m.pc, .slice (some ⟨mB2, mO2, none⟩) m.mem.length ak2, .int .i64 m.save, .bool m.lets, .bool m.waits, .int .i64 m.halt, .slice aq3 m.ins.length ak3, .slice aq4 m.outs.length ak4, .int .i64 m.count], m) (List.mem_cons_of_mem _ List.mem_cons_self)).1.r.cell 6 _ rfl
        have ac7 := (S.out.box (X1, [.slice (some ⟨mB1, mO1, none⟩) m.regs.length ak1, .int .i64 m.pc, .slice (some ⟨mB2, mO2, none⟩) m.mem.length ak2, .int .i64 m.save, .bool m.lets, .bool m.waits, .int .i64 m.halt, .slice aq3 m.ins.length ak3, .slice aq4 m.outs.length ak4, .int .i64 m.count], m) (List.mem_cons_of_mem _ List.mem_cons_self)).1.r.cell 7 _ rfl
        have ac8 := (S.out.box (X1, [.slice (some ⟨mB1, mO1, none⟩) m.regs.length ak1, .int .i64 m.pc, .slice (some ⟨mB2, mO2, none⟩) m.mem.length ak2, .int .i64 m.save, .bool m.lets, .bool m.waits, .int .i64 m.halt, .slice aq3 m.ins.length ak3, .slice aq4 m.outs.length ak4, .int .i64 m.count], m) (List.mem_cons_of_mem _ List.mem_cons_self)).1.r.cell 8 _ rfl
        have ac9 := (S.out.box (X1, [.slice (some ⟨mB1, mO1, none⟩) m.regs.length ak1, .int .i64 m.pc, .slice (some ⟨mB2, mO2, none⟩) m.mem.length ak2, .int .i64 m.save, .bool m.lets, .bool m.waits, .int .i64 m.halt, .slice aq3 m.ins.length ak3, .slice aq4 m.outs.length ak4, .int .i64 m.count], m) (List.mem_cons_of_mem _ List.mem_cons_self)).1.r.cell 9 _ rfl
        have bc0 := (S.out.box (X2, [.slice bq1 x.regs.length bk1, .int .i64 x.pc, .slice bq2 x.mem.length bk2, .int .i64 x.save, .bool x.lets, .bool x.waits, .int .i64 x.halt, .slice bq3 x.ins.length bk3, .slice bq4 x.outs.length bk4, .int .i64 x.count], x) List.mem_cons_self).1.r.cell 0 _ rfl
        have bc1 := (S.out.box (X2, [.slice bq1 x.regs.length bk1, .int .i64 x.pc, .slice bq2 x.mem.length bk2, .int .i64 x.save, .bool x.lets, .bool x.waits, .int .i64 x.halt, .slice bq3 x.ins.length bk3, .slice bq4 x.outs.length bk4, .int .i64 x.count], x) List.mem_cons_self).1.r.cell 1 _ rfl
        have bc2 := (S.out.box (X2, [.slice bq1 x.regs.length bk1, .int .i64 x.pc, .slice bq2 x.mem.length bk2, .int .i64 x.save, .bool x.lets, .bool x.waits, .int .i64 x.halt, .slice bq3 x.ins.length bk3, .slice bq4 x.outs.length bk4, .int .i64 x.count], x) List.mem_cons_self).1.r.cell 2 _ rfl
        have bc3 := (S.out.box (X2, [.slice bq1 x.regs.length bk1, .int .i64 x.pc, .slice bq2 x.mem.length bk2, .int .i64 x.save, .bool x.lets, .bool x.waits, .int .i64 x.halt, .slice bq3 x.ins.length bk3, .slice bq4 x.outs.length bk4, .int .i64 x.count], x) List.mem_cons_self).1.r.cell 3 _ rfl
        have bc4 := (S.out.box (X2, [.slice bq1 x.regs.length bk1, .int .i64 x.pc, .slice bq2 x.mem.length bk2, .int .i64 x.save, .bool x.lets, .bool x.waits, .int .i64 x.halt, .slice bq3 x.ins.length bk3, .slice bq4 x.outs.length bk4, .int .i64 x.count], x) List.mem_cons_self).1.r.cell 4 _ rfl
        have bc5 := (S.out.box (X2, [.slice bq1 x.regs.length bk1, .int .i64 x.pc, .slice bq2 x.mem.length bk2, .int .i64 x.save, .bool x.lets, .bool x.waits, .int .i64 x.halt, .slice bq3 x.ins.length bk3, .slice bq4 x.outs.length bk4, .int .i64 x.count], x) List.mem_cons_self).1.r.cell 5 _ rfl
        have bc6 := (S.out.box (X2, [.slice bq1 x.regs.length bk1, .int .i64 x.pc, .slice bq2 x.mem.length bk2, .int .i64 x.save, .bool x.lets, .bool x.waits, .int .i64 x.halt, .slice bq3 x.ins.length bk3, .slice bq4 x.outs.length bk4, .int .i64 x.count], x) List.mem_cons_self).1.r.cell 6 _ rfl
        have bc7 := (S.out.box (X2, [.slice bq1 x.regs.length bk1, .int .i64 x.pc, .slice bq2 x.mem.length bk2, .int .i64 x.save, .bool x.lets, .bool x.waits, .int .i64 x.halt, .slice bq3 x.ins.length bk3, .slice bq4 x.outs.length bk4, .int .i64 x.count], x) List.mem_cons_self).1.r.cell 7 _ rfl
        have bc8 := (S.out.box (X2, [.slice bq1 x.regs.length bk1, .int .i64 x.pc, .slice bq2 x.mem.length bk2, .int .i64 x.save, .bool x.lets, .bool x.waits, .int .i64 x.halt, .slice bq3 x.ins.length bk3, .slice bq4 x.outs.length bk4, .int .i64 x.count], x) List.mem_cons_self).1.r.cell 8 _ rfl
        have bc9 := (S.out.box (X2, [.slice bq1 x.regs.length bk1, .int .i64 x.pc, .slice bq2 x.mem.length bk2, .int .i64 x.save, .bool x.lets, .bool x.waits, .int .i64 x.halt, .slice bq3 x.ins.length bk3, .slice bq4 x.outs.length bk4, .int .i64 x.count], x) List.mem_cons_self).1.r.cell 9 _ rfl
        have FIN := hide S.out.bw
        clear S
        go_wp2
        go_ret
        exact ⟨rfl, FIN.out⟩
      rw [Blk.takeC_yes tb, tb]
      simp only [Blk.inOf]
      clear tb
      generalize v / 4096 = op at KD ⊢
      generalize v / 1024 % 4 = d at KD ⊢
      have ab : 0 ≤ v / 256 % 4 ∧ v / 256 % 4 < 4 := by omega
      generalize v / 256 % 4 = a at KD ab ⊢
      generalize v % 256 = k at KD ⊢
      have pw : ∀ z : Int, z = m.pc + 1 → z = (P : Int) + 1 := fun z h => by rw [h, HPP.out]
      rcases KD with ⟨k1, k2⟩ | ⟨k1, rfl, rfl, rfl, rfl⟩ | ⟨k1, rfl, k2⟩ | ⟨k1, rfl, k2⟩ | ⟨k1, k2, k3, k4⟩
      · have f0 : (x.halt != 0) = true := by rw [k1]; rfl
        have f1 : (x.halt == 3) = true := by rw [k1]; rfl
        clear k1
        rcases k2 with rfl | rfl
        · skip
          have S2 := hide (S.out.below ((Below.refl _ _).alloc (Nat.le_refl _) (.cells #[.int .i64 9, .int .i64 d, .int .i64 a, .int .i64 k] 38)))
          clear S
          have S := S2
          clear S2
          have ac0 := (S.out.box (X1, [.slice (some ⟨mB1, mO1, none⟩) m.regs.length ak1, .int .i64 m.pc, .slice (some ⟨mB2, mO2, none⟩) m.mem.length ak2, .int .i64 m.save, .bool m.lets, .bool m.waits, .int .i64 m.halt, .slice aq3 m.ins.length ak3, .slice aq4 m.outs.length ak4, .int .i64 m.count], m) (List.mem_cons_of_mem _ List.mem_cons_self)).1.r.cell 0 _ rfl
          have ac1 := (S.out.box (X1, [.slice (some ⟨mB1, mO1, none⟩) m.regs.length ak1, .int .i64 m.pc, .slice (some ⟨mB2, mO2, none⟩) m.mem.length ak2, .int .i64 m.save, .bool m.lets, .bool m.waits, .int .i64 m.halt, .slice aq3 m.ins.length ak3, .slice aq4 m.outs.length ak4, .int .i64 m.count], m) (List.mem_cons_of_mem _ List.mem_cons_self)).1.r.cell 1 _ rfl
          have ac2 := (S.out.box (X1, [.slice (some ⟨mB1, mO1, none⟩) m.regs.length ak1, .int .i64 m.pc, .slice (some ⟨mB2, mO2, none⟩) m.mem.length ak2, .int .i64 m.save, .bool m.lets, .bool m.waits, .int .i64 m.halt, .slice aq3 m.ins.length ak3, .slice aq4 m.outs.length ak4, .int .i64 m.count], m) (List.mem_cons_of_mem _ List.mem_cons_self)).1.r.cell 2 _ rfl
          have ac3 := (S.out.box (X1, [.slice (some ⟨mB1, mO1, none⟩) m.regs.length ak1, .int .i64 m.pc, .slice (some ⟨mB2, mO2, none⟩) m.mem.length ak2, .int .i64 m.save, .bool m.lets, .bool m.waits, .int .i64 m.halt, .slice aq3 m.ins.length ak3, .slice aq4 m.outs.length ak4, .int .i64 m.count], m) (List.mem_cons_of_mem _ List.mem_cons_self)).1.r.cell 3 _ rfl
          have ac4 := (S.out.box (X1, [.slice (some ⟨mB1, mO1, none⟩) m.regs.length ak1, .int .i64 m.pc, .slice (some ⟨mB2, mO2, none⟩) m.mem.length ak2, .int .i64 m.save, .bool m.lets, .bool m.waits, .int .i64 m.halt, .slice aq3 m.ins.length ak3, .slice aq4 m.outs.length ak4, .int .i64 m.count], m) (List.mem_cons_of_mem _ List.mem_cons_self)).1.r.cell 4 _ rfl
          have ac5 := (S.out.box (X1, [.slice (some ⟨mB1, mO1, none⟩) m.regs.length ak1, .int .i64 m.pc, .slice (some ⟨mB2, mO2, none⟩) m.mem.length ak2, .int .i64 m.save, .bool m.lets, .bool m.waits, .int .i64 m.halt, .slice aq3 m.ins.length ak3, .slice aq4 m.outs.length ak4, .int .i64 m.count], m) (List.mem_cons_of_mem _ List.mem_cons_self)).1.r.cell 5 _ rfl
          have ac6 := (S.out.box (X1, [.slice (some ⟨mB1, mO1, none⟩) m.regs.length ak1, .int .i64 m.pc, .slice (some ⟨mB2, mO2, none⟩) m.mem.length ak2, .int .i64 m.save, .bool m.lets, .bool m.waits, .int .i64 m.halt, .slice aq3 m.ins.length ak3, .slice aq4 m.outs.length ak4, .int .i64 m.count], m) (List.mem_cons_of_mem _ List.mem_cons_self)).1.r.cell 6 _ rfl
          have ac7 := (S.out.box (X1, [.slice (some ⟨mB1, mO1, none⟩) m.regs.length ak1, .int .i64 m.pc, .slice (some ⟨mB2, mO2, none⟩) m.mem.length ak2, .int .i64 m.save, .bool m.lets, .bool m.waits, .int .i64 m.halt, .slice aq3 m.ins.length ak3, .slice aq4 m.outs.length ak4, .int .i64 m.count], m) (List.mem_cons_of_mem _ List.mem_cons_self)).1.r.cell 7 _ rfl
          have ac8 := (S.out.box (X1, [.slice (some ⟨mB1, mO1, none⟩) m.regs.length ak1, .int .i64 m.pc, .slice (some ⟨mB2, mO2, none⟩) m.mem.length ak2, .int .i64 m.save, .bool m.lets, .bool m.waits, .int .i64 m.halt, .slice aq3 m.ins.length ak3, .slice aq4 m.outs.length ak4, .int .i64 m.count], m) (List.mem_cons_of_mem _ List.mem_cons_self)).1.r.cell 8 _ rfl
          have ac9 := (S.out.box (X1, [.slice (some ⟨mB1, mO1, none⟩) m.regs.length ak1, .int .i64 m.pc, .slice (some ⟨mB2, mO2, none⟩) m.mem.length ak2, .int .i64 m.save, .bool m.lets, .bool m.waits, .int .i64 m.halt, .slice aq3 m.ins.length ak3, .slice aq4 m.outs.length ak4, .int .i64 m.count], m) (List.mem_cons_of_mem _ List.mem_cons_self)).1.r.cell 9 _ rfl
          have bc0 := (S.out.box (X2, [.slice bq1 x.regs.length bk1, .int .i64 x.pc, .slice bq2 x.mem.length bk2, .int .i64 x.save, .bool x.lets, .bool x.waits, .int .i64 x.halt, .slice bq3 x.ins.length bk3, .slice bq4 x.outs.length bk4, .int .i64 x.count], x) List.mem_cons_self).1.r.cell 0 _ rfl
          have bc1 := (S.out.box (X2, [.slice bq1 x.regs.length bk1, .int .i64 x.pc, .slice bq2 x.mem.length bk2, .int .i64 x.save, .bool x.lets, .bool x.waits, .int .i64 x.halt, .slice bq3 x.ins.length bk3, .slice bq4 x.outs.length bk4, .int .i64 x.count], x) List.mem_cons_self).1.r.cell 1 _ rfl
          have bc2 := (S.out.box (X2, [.slice bq1 x.regs.length bk1, .int .i64 x.pc, .slice bq2 x.mem.length bk2, .int .i64 x.save, .bool x.lets, .bool x.waits, .int .i64 x.halt, .slice bq3 x.ins.length bk3, .slice bq4 x.outs.length bk4, .int .i64 x.count], x) List.mem_cons_self).1.r.cell 2 _ rfl
          have bc3 := (S.out.box (X2, [.slice bq1 x.regs.length bk1, .int .i64 x.pc, .slice bq2 x.mem.length bk2, .int .i64 x.save, .bool x.lets, .bool x.waits, .int .i64 x.halt, .slice bq3 x.ins.length bk3, .slice bq4 x.outs.length bk4, .int .i64 x.count], x) List.mem_cons_self).1.r.cell 3 _ rfl
          have bc4 := (S.out.box (X2, [.slice bq1 x.regs.length bk1, .int .i64 x.pc, .slice bq2 x.mem.length bk2, .int .i64 x.save, .bool x.lets, .bool x.waits, .int .i64 x.halt, .slice bq3 x.ins.length bk3, .slice bq4 x.outs.length bk4, .int .i64 x.count], x) List.mem_cons_self).1.r.cell 4 _ rfl
          have bc5 := (S.out.box (X2, [.slice bq1 x.regs.length bk1, .int .i64 x.pc, .slice bq2 x.mem.length bk2, .int .i64 x.save, .bool x.lets, .bool x.waits, .int .i64 x.halt, .slice bq3 x.ins.length bk3, .slice bq4 x.outs.length bk4, .int .i64 x.count], x) List.mem_cons_self).1.r.cell 5 _ rfl
          have bc6 := (S.out.box (X2, [.slice bq1 x.regs.length bk1, .int .i64 x.pc, .slice bq2 x.mem.length bk2, .int .i64 x.save, .bool x.lets, .bool x.waits, .int .i64 x.halt, .slice bq3 x.ins.length bk3, .slice bq4 x.outs.length bk4, .int .i64 x.count], x) List.mem_cons_self).1.r.cell 6 _ rfl
          have bc7 := (S.out.box (X2, [.slice bq1 x.regs.length bk1, .int .i64 x.pc, .slice bq2 x.mem.length bk2, .int .i64 x.save, .bool x.lets, .bool x.waits, .int .i64 x.halt, .slice bq3 x.ins.length bk3, .slice bq4 x.outs.length bk4, .int .i64 x.count], x) List.mem_cons_self).1.r.cell 7 _ rfl
          have bc8 := (S.out.box (X2, [.slice bq1 x.regs.length bk1, .int .i64 x.pc, .slice bq2 x.mem.length bk2, .int .i64 x.save, .bool x.lets, .bool x.waits, .int .i64 x.halt, .slice bq3 x.ins.length bk3, .slice bq4 x.outs.length bk4, .int .i64 x.count], x) List.mem_cons_self).1.r.cell 8 _ rfl
          have bc9 := (S.out.box (X2, [.slice bq1 x.regs.length bk1, .int .i64 x.pc, .slice bq2 x.mem.length bk2, .int .i64 x.save, .bool x.lets, .bool x.waits, .int .i64 x.halt, .slice bq3 x.ins.length bk3, .slice bq4 x.outs.length bk4, .int .i64 x.count], x) List.mem_cons_self).1.r.cell 9 _ rfl
          have FIN := hide S.out.bw
          clear S
          go_wp2
          go_ret
          exact ⟨rfl, FIN.out⟩
        · skip
          have S2 := hide (S.out.below ((Below.refl _ _).alloc (Nat.le_refl _) (.cells #[.int .i64 10, .int .i64 d, .int .i64 a, .int .i64 k] 38)))
          clear S
          have S := S2
          clear S2
          have ac0 := (S.out.box (X1, [.slice (some ⟨mB1, mO1, none⟩) m.regs.length ak1, .int .i64 m.pc, .slice (some ⟨mB2, mO2, none⟩) m.mem.length ak2, .int .i64 m.save, .bool m.lets, .bool m.waits, .int .i64 m.halt, .slice aq3 m.ins.length ak3, .slice aq4 m.outs.length ak4, .int .i64 m.count], m) (List.mem_cons_of_mem _ List.mem_cons_self)).1.r.cell 0 _ rfl
          have ac1 := (S.out.box (X1, [.slice (some ⟨mB1, mO1, none⟩) m.regs.length ak1, .int .i64 m.pc, .slice (some ⟨mB2, mO2, none⟩) m.mem.length ak2, .int .i64 m.save, .bool m.lets, .bool m.waits, .int .i64 m.halt, .slice aq3 m.ins.length ak3, .slice aq4 m.outs.length ak4, .int .i64 m.count], m) (List.mem_cons_of_mem _ List.mem_cons_self)).1.r.cell 1 _ rfl
          have ac2 := (S.out.box (X1, [.slice (some ⟨mB1, mO1, none⟩) m.regs.length ak1, .int .i64 m.pc, .slice (some ⟨mB2, mO2, none⟩) m.mem.length ak2, .int .i64 m.save, .bool m.lets, .bool m.waits, .int .i64 m.halt, .slice aq3 m.ins.length ak3, .slice aq4 m.outs.length ak4, .int .i64 m.count], m) (List.mem_cons_of_mem _ List.mem_cons_self)).1.r.cell 2 _ rfl
          have ac3 := (S.out.box (X1, [.slice (some ⟨mB1, mO1, none⟩) m.regs.length ak1, .int .i64 m.pc, .slice (some ⟨mB2, mO2, none⟩) m.mem.length ak2, .int .i64 m.save, .bool m.lets, .bool m.waits, .int .i64 m.halt, .slice aq3 m.ins.length ak3, .slice aq4 m.outs.length ak4, .int .i64 m.count], m) (List.mem_cons_of_mem _ List.mem_cons_self)).1.r.cell 3 _ rfl
          have ac4 := (S.out.box (X1, [.slice (some ⟨mB1, mO1, none⟩) m.regs.length ak1, .int .i64 m.pc, .slice (some ⟨mB2, mO2, none⟩) m.mem.length ak2, .int .i64 m.save, .bool m.lets, .bool m.waits, .int .i64 m.halt, .slice aq3 m.ins.length ak3, .slice aq4 m.outs.length ak4, .int .i64 m.count], m) (List.mem_cons_of_mem _ List.mem_cons_self)).1.r.cell 4 _ rfl
          have ac5 := (S.out.box (X1, [.slice (some ⟨mB1, mO1, none⟩) m.regs.length ak1, .int .i64 m.pc, .slice (some ⟨mB2, mO2, none⟩) m.mem.length ak2, .int .i64 m.save, .bool m.lets, .bool m.waits, .int .i64 m.halt, .slice aq3 m.ins.length ak3, .slice aq4 m.outs.length ak4, .int .i64 m.count], m) (List.mem_cons_of_mem _ List.mem_cons_self)).1.r.cell 5 _ rfl
          have ac6 := (S.out.box (X1, [.slice (some ⟨mB1, mO1, none⟩) m.regs.length ak1, .int .i64 m.pc, .slice (some ⟨mB2, mO2, none⟩) m.mem.length ak2, .int .i64 m.save, .bool m.lets, .bool m.waits, .int .i64 m.halt, .slice aq3 m.ins.length ak3, .slice aq4 m.outs.length ak4, .int .i64 m.count], m) (List.mem_cons_of_mem _ List.mem_cons_self)).1.r.cell 6 _ rfl
          have ac7 := (S.out.box (X1, [.slice (some ⟨mB1, mO1, none⟩) m.regs.length ak1, .int .i64 m.pc, .slice (some ⟨mB2, mO2, none⟩) m.mem.length ak2, .int .i64 m.save, .bool m.lets, .bool m.waits, .int .i64 m.halt, .slice aq3 m.ins.length ak3, .slice aq4 m.outs.length ak4, .int .i64 m.count], m) (List.mem_cons_of_mem _ List.mem_cons_self)).1.r.cell 7 _ rfl
          have ac8 := (S.out.box (X1, [.slice (some ⟨mB1, mO1, none⟩) m.regs.length ak1, .int .i64 m.pc, .slice (some ⟨mB2, mO2, none⟩) m.mem.length ak2, .int .i64 m.save, .bool m.lets, .bool m.waits, .int .i64 m.halt, .slice aq3 m.ins.length ak3, .slice aq4 m.outs.length ak4, .int .i64 m.count], m) (List.mem_cons_of_mem _ List.mem_cons_self)).1.r.cell 8 _ rfl
          have ac9 := (S.out.box (X1, [.slice (some ⟨mB1, mO1, none⟩) m.regs.length ak1, .int .i64 m.pc, .slice (some ⟨mB2, mO2, none⟩) m.mem.length ak2, .int .i64 m.save, .bool m.lets, .bool m.waits, .int .i64 m.halt, .slice aq3 m.ins.length ak3, .slice aq4 m.outs.length ak4, .int .i64 m.count], m) (List.mem_cons_of_mem _ List.mem_cons_self)).1.r.cell 9 _ rfl
          have bc0 := (S.out.box (X2, [.slice bq1 x.regs.length bk1, .int .i64 x.pc, .slice bq2 x.mem.length bk2, .int .i64 x.save, .bool x.lets, .bool x.waits, .int .i64 x.halt, .slice bq3 x.ins.length bk3, .slice bq4 x.outs.length bk4, .int .i64 x.count], x) List.mem_cons_self).1.r.cell 0 _ rfl
          have bc1 := (S.out.box (X2, [.slice bq1 x.regs.length bk1, .int .i64 x.pc, .slice bq2 x.mem.length bk2, .int .i64 x.save, .bool x.lets, .bool x.waits, .int .i64 x.halt, .slice bq3 x.ins.length bk3, .slice bq4 x.outs.length bk4, .int .i64 x.count], x) List.mem_cons_self).1.r.cell 1 _ rfl
          have bc2 := (S.out.box (X2, [.slice bq1 x.regs.length bk1, .int .i64 x.pc, .slice bq2 x.mem.length bk2, .int .i64 x.save, .bool x.lets, .bool x.waits, .int .i64 x.halt, .slice bq3 x.ins.length bk3, .slice bq4 x.outs.length bk4, .int .i64 x.count], x) List.mem_cons_self).1.r.cell 2 _ rfl
          have bc3 := (S.out.box (X2, [.slice bq1 x.regs.length bk1, .int .i64 x.pc, .slice bq2 x.mem.length bk2, .int .i64 x.save, .bool x.lets, .bool x.waits, .int .i64 x.halt, .slice bq3 x.ins.length bk3, .slice bq4 x.outs.length bk4, .int .i64 x.count], x) List.mem_cons_self).1.r.cell 3 _ rfl
          have bc4 := (S.out.box (X2, [.slice bq1 x.regs.length bk1, .int .i64 x.pc, .slice bq2 x.mem.length bk2, .int .i64 x.save, .bool x.lets, .bool x.waits, .int .i64 x.halt, .slice bq3 x.ins.length bk3, .slice bq4 x.outs.length bk4, .int .i64 x.count], x) List.mem_cons_self).1.r.cell 4 _ rfl
          have bc5 := (S.out.box (X2, [.slice bq1 x.regs.length bk1, .int .i64 x.pc, .slice bq2 x.mem.length bk2, .int .i64 x.save, .bool x.lets, .bool x.waits, .int .i64 x.halt, .slice bq3 x.ins.length bk3, .slice bq4 x.outs.length bk4, .int .i64 x.count], x) List.mem_cons_self).1.r.cell 5 _ rfl
          have bc6 := (S.out.box (X2, [.slice bq1 x.regs.length bk1, .int .i64 x.pc, .slice bq2 x.mem.length bk2, .int .i64 x.save, .bool x.lets, .bool x.waits, .int .i64 x.halt, .slice bq3 x.ins.length bk3, .slice bq4 x.outs.length bk4, .int .i64 x.count], x) List.mem_cons_self).1.r.cell 6 _ rfl
          have bc7 := (S.out.box (X2, [.slice bq1 x.regs.length bk1, .int .i64 x.pc, .slice bq2 x.mem.length bk2, .int .i64 x.save, .bool x.lets, .bool x.waits, .int .i64 x.halt, .slice bq3 x.ins.length bk3, .slice bq4 x.outs.length bk4, .int .i64 x.count], x) List.mem_cons_self).1.r.cell 7 _ rfl
          have bc8 := (S.out.box (X2, [.slice bq1 x.regs.length bk1, .int .i64 x.pc, .slice bq2 x.mem.length bk2, .int .i64 x.save, .bool x.lets, .bool x.waits, .int .i64 x.halt, .slice bq3 x.ins.length bk3, .slice bq4 x.outs.length bk4, .int .i64 x.count], x) List.mem_cons_self).1.r.cell 8 _ rfl
          have bc9 := (S.out.box (X2, [.slice bq1 x.regs.length bk1, .int .i64 x.pc, .slice bq2 x.mem.length bk2, .int .i64 x.save, .bool x.lets, .bool x.waits, .int .i64 x.halt, .slice bq3 x.ins.length bk3, .slice bq4 x.outs.length bk4, .int .i64 x.count], x) List.mem_cons_self).1.r.cell 9 _ rfl
          have FIN := hide S.out.bw
          clear S
          go_wp2
          go_ret
          exact ⟨rfl, FIN.out⟩
      · have f0 : (x.halt != 0) = true := by rw [k1]; rfl
        have f1 : (x.halt == 3) = false := by rw [k1]; rfl
        have f2 : (x.halt == 1) = true := by rw [k1]; rfl
        clear k1
        have S2 := hide (S.out.below ((Below.refl _ _).alloc (Nat.le_refl _) (.cells #[.int .i64 0, .int .i64 0, .int .i64 0, .int .i64 0] 38)))
        clear S
        have S := S2
        clear S2
        have ac0 := (S.out.box (X1, [.slice (some ⟨mB1, mO1, none⟩) m.regs.length ak1, .int .i64 m.pc, .slice (some ⟨mB2, mO2, none⟩) m.mem.length ak2, .int .i64 m.save, .bool m.lets, .bool m.waits, .int .i64 m.halt, .slice aq3 m.ins.length ak3, .slice aq4 m.outs.length ak4, .int .i64 m.count], m) (List.mem_cons_of_mem _ List.mem_cons_self)).1.r.cell 0 _ rfl
        have ac1 := (S.out.box (X1, [.slice (some ⟨mB1, mO1, none⟩) m.regs.length ak1, .int .i64 m.pc, .slice (some ⟨mB2, mO2, none⟩) m.mem.length ak2, .int .i64 m.save, .bool m.lets, .bool m.waits, .int .i64 m.halt, .slice aq3 m.ins.length ak3, .slice aq4 m.outs.length ak4, .int .i64 m.count], m) (List.mem_cons_of_mem _ List.mem_cons_self)).1.r.cell 1 _ rfl
        have ac2 := (S.out.box (X1, [.slice (some ⟨mB1, mO1, none⟩) m.regs.length ak1, .int .i64 m.pc, .slice (some ⟨mB2, mO2, none⟩) m.mem.length ak2, .int .i64 m.save, .bool m.lets, .bool m.waits, .int .i64 m.halt, .slice aq3 m.ins.length ak3, .slice aq4 m.outs.length ak4, .int .i64 m.count], m) (List.mem_cons_of_mem _ List.mem_cons_self)).1.r.cell 2 _ rfl
        have ac3 := (S.out.box (X1, [.slice (some ⟨mB1, mO1, none⟩) m.regs.length ak1, .int .i64 m.pc, .slice (some ⟨mB2, mO2, none⟩) m.mem.length ak2, .int .i64 m.save, .bool m.lets, .bool m.waits, .int .i64 m.halt, .slice aq3 m.ins.length ak3, .slice aq4 m.outs.length ak4, .int .i64 m.count], m) (List.mem_cons_of_mem _ List.mem_cons_self)).1.r.cell 3 _ rfl
        have ac4 := (S.out.box (X1, [.slice (some ⟨mB1, mO1, none⟩) m.regs.length ak1, .int .i64 m.pc, .slice (some ⟨mB2, mO2, none⟩) m.mem.length ak2, .int .i64 m.save, .bool m.lets, .bool m.waits, .int .i64 m.halt, .slice aq3 m.ins.length ak3, .slice aq4 m.outs.length ak4, .int .i64 m.count], m) (List.mem_cons_of_mem _ List.mem_cons_self)).1.r.cell 4 _ rfl
        have ac5 := (S.out.box (X1, [.slice (some ⟨mB1, mO1, none⟩) m.regs.length ak1, .int .i64 m.pc, .slice (some ⟨mB2, mO2, none⟩) m.mem.length ak2, .int .i64 m.save, .bool m.lets, .bool m.waits, .int .i64 m.halt, .slice aq3 m.ins.length ak3, .slice aq4 m.outs.length ak4, .int .i64 m.count], m) (List.mem_cons_of_mem _ List.mem_cons_self)).1.r.cell 5 _ rfl
        have ac6 := (S.out.box (X1, [.slice (some ⟨mB1, mO1, none⟩) m.regs.length ak1, .int .i64 m.pc, .slice (some ⟨mB2, mO2, none⟩) m.mem.length ak2, .int .i64 m.save, .bool m.lets, .bool m.waits, .int .i64 m.halt, .slice aq3 m.ins.length ak3, .slice aq4 m.outs.length ak4, .int .i64 m.count], m) (List.mem_cons_of_mem _ List.mem_cons_self)).1.r.cell 6 _ rfl
        have ac7 := (S.out.box (X1, [.slice (some ⟨mB1, mO1, none⟩) m.regs.length ak1, .int .i64 m.pc, .slice (some ⟨mB2, mO2, none⟩) m.mem.length ak2, .int .i64 m.save, .bool m.lets, .bool m.waits, .int .i64 m.halt, .slice aq3 m.ins.length ak3, .slice aq4 m.outs.length ak4, .int .i64 m.count], m) (List.mem_cons_of_mem _ List.mem_cons_self)).1.r.cell 7 _ rfl
        have ac8 := (S.out.box (X1, [.slice (some ⟨mB1, mO1, none⟩) m.regs.length ak1, .int .i64 m.pc, .slice (some ⟨mB2, mO2, none⟩) m.mem.length ak2, .int .i64 m.save, .bool m.lets, .bool m.waits, .int .i64 m.halt, .slice aq3 m.ins.length ak3, .slice aq4 m.outs.length ak4, .int .i64 m.count], m) (List.mem_cons_of_mem _ List.mem_cons_self)).1.r.cell 8 _ rfl
        have ac9 := (S.out.box (X1, [.slice (some ⟨mB1, mO1, none⟩) m.regs.length ak1, .int .i64 m.pc, .slice (some ⟨mB2, mO2, none⟩) m.mem.length ak2, .int .i64 m.save, .bool m.lets, .bool m.waits, .int .i64 m.halt, .slice aq3 m.ins.length ak3, .slice aq4 m.outs.length ak4, .int .i64 m.count], m) (List.mem_cons_of_mem _ List.mem_cons_self)).1.r.cell 9 _ rfl
        have bc0 := (S.out.box (X2, [.slice bq1 x.regs.length bk1, .int .i64 x.pc, .slice bq2 x.mem.length bk2, .int .i64 x.save, .bool x.lets, .bool x.waits, .int .i64 x.halt, .slice bq3 x.ins.length bk3, .slice bq4 x.outs.length bk4, .int .i64 x.count], x) List.mem_cons_self).1.r.cell 0 _ rfl
        have bc1 := (S.out.box (X2, [.slice bq1 x.regs.length bk1, .int .i64 x.pc, .slice bq2 x.mem.length bk2, .int .i64 x.save, .bool x.lets, .bool x.waits, .int .i64 x.halt, .slice bq3 x.ins.length bk3, .slice bq4 x.outs.length bk4, .int .i64 x.count], x) List.mem_cons_self).1.r.cell 1 _ rfl
        have bc2 := (S.out.box (X2, [.slice bq1 x.regs.length bk1, .int .i64 x.pc, .slice bq2 x.mem.length bk2, .int .i64 x.save, .bool x.lets, .bool x.waits, .int .i64 x.halt, .slice bq3 x.ins.length bk3, .slice bq4 x.outs.length bk4, .int .i64 x.count], x) List.mem_cons_self).1.r.cell 2 _ rfl
        have bc3 := (S.out.box (X2, [.slice bq1 x.regs.length bk1, .int .i64 x.pc, .slice bq2 x.mem.length bk2, .int .i64 x.save, .bool x.lets, .bool x.waits, .int .i64 x.halt, .slice bq3 x.ins.length bk3, .slice bq4 x.outs.length bk4, .int .i64 x.count], x) List.mem_cons_self).1.r.cell 3 _ rfl
        have bc4 := (S.out.box (X2, [.slice bq1 x.regs.length bk1, .int .i64 x.pc, .slice bq2 x.mem.length bk2, .int .i64 x.save, .bool x.lets, .bool x.waits, .int .i64 x.halt, .slice bq3 x.ins.length bk3, .slice bq4 x.outs.length bk4, .int .i64 x.count], x) List.mem_cons_self).1.r.cell 4 _ rfl
        have bc5 := (S.out.box (X2, [.slice bq1 x.regs.length bk1, .int .i64 x.pc, .slice bq2 x.mem.length bk2, .int .i64 x.save, .bool x.lets, .bool x.waits, .int .i64 x.halt, .slice bq3 x.ins.length bk3, .slice bq4 x.outs.length bk4, .int .i64 x.count], x) List.mem_cons_self).1.r.cell 5 _ rfl
        have bc6 := (S.out.box (X2, [.slice bq1 x.regs.length bk1, .int .i64 x.pc, .slice bq2 x.mem.length bk2, .int .i64 x.save, .bool x.lets, .bool x.waits, .int .i64 x.halt, .slice bq3 x.ins.length bk3, .slice bq4 x.outs.length bk4, .int .i64 x.count], x) List.mem_cons_self).1.r.cell 6 _ rfl
        have bc7 := (S.out.box (X2, [.slice bq1 x.regs.length bk1, .int .i64 x.pc, .slice bq2 x.mem.length bk2, .int .i64 x.save, .bool x.lets, .bool x.waits, .int .i64 x.halt, .slice bq3 x.ins.length bk3, .slice bq4 x.outs.length bk4, .int .i64 x.count], x) List.mem_cons_self).1.r.cell 7 _ rfl
        have bc8 := (S.out.box (X2, [.slice bq1 x.regs.length bk1, .int .i64 x.pc, .slice bq2 x.mem.length bk2, .int .i64 x.save, .bool x.lets, .bool x.waits, .int .i64 x.halt, .slice bq3 x.ins.length bk3, .slice bq4 x.outs.length bk4, .int .i64 x.count], x) List.mem_cons_self).1.r.cell 8 _ rfl
        have bc9 := (S.out.box (X2, [.slice bq1 x.regs.length bk1, .int .i64 x.pc, .slice bq2 x.mem.length bk2, .int .i64 x.save, .bool x.lets, .bool x.waits, .int .i64 x.halt, .slice bq3 x.ins.length bk3, .slice bq4 x.outs.length bk4, .int .i64 x.count], x) List.mem_cons_self).1.r.cell 9 _ rfl
        have FIN := hide S.out.bw
        clear S
        go_wp2
        go_ret
        exact ⟨rfl, FIN.out⟩
      · have f0 : (x.halt != 0) = false := by rw [k1]; rfl
        clear k1
        obtain ⟨A, rfl⟩ : ∃ A : Nat, a = (A : Int) := ⟨a.toNat, by omega⟩
        have A4 : A < 4 := by omega
        obtain ⟨rv, hrv⟩ : ∃ rv, m.regs[A]? = some rv := ⟨_, List.getElem?_eq_getElem (by rw [MR.out]; exact A4)⟩
        have kx : x.pc = rv := by rw [k2, Int.toNat_natCast, List.getD_eq_getElem?_getD, hrv]; rfl
        have f1 : (x.pc == rv) = true := by rw [kx]; simp
        have la : (A : Int) < ((m.regs.length : Nat) : Int) := by rw [MR.out]; omega
        have HRV := hide hrv
        clear k2 kx hrv pw ab
        have RI : Row (wv5.alloc (.cells #[.int .i64 13, .int .i64 d, .int .i64 (A : Int), .int .i64 k] 38)) wv5.heap.size (.slice (some ⟨wv5.heap.size, 0, none⟩) 4 4) [13, d, (A : Int), k] := ⟨_, 4, 0, rfl, Nat.le_refl _, by unfold maxLen; omega, (fun h => by cases h), Or.inr ⟨rfl, fun i z hz => by rw [Nat.zero_add]; exact Draw.lit_cells (fs := [13, d, (A : Int), k]) i z hz⟩⟩
        have S2 := S.out.below ((Below.refl _ _).alloc (Nat.le_refl _) (.cells #[.int .i64 13, .int .i64 d, .int .i64 (A : Int), .int .i64 k] 38))
        have S3 : Hid (Sit w [(X2, [.slice bq1 x.regs.length bk1, .int .i64 x.pc, .slice bq2 x.mem.length bk2, .int .i64 x.save, .bool x.lets, .bool x.waits, .int .i64 x.halt, .slice bq3 x.ins.length bk3, .slice bq4 x.outs.length bk4, .int .i64 x.count], x), (X1, [.slice (some ⟨mB1, mO1, none⟩) m.regs.length ak1, .int .i64 m.pc, .slice (some ⟨mB2, mO2, none⟩) m.mem.length ak2, .int .i64 m.save, .bool m.lets, .bool m.waits, .int .i64 m.halt, .slice aq3 m.ins.length ak3, .slice aq4 m.outs.length ak4, .int .i64 m.count], m)] [(wv5.heap.size, .slice (some ⟨wv5.heap.size, 0, none⟩) 4 4, [13, d, (A : Int), k])] (wv5.alloc (.cells #[.int .i64 13, .int .i64 d, .int .i64 (A : Int), .int .i64 k] 38))) := ⟨S2.bw, S2.box, fun r hr => by rcases List.mem_cons.1 hr with rfl | hr; exact RI; exact absurd hr (by simp)⟩
        clear S RI S2
        have S := S3
        clear S3
        have bc0 := (S.out.box (X2, [.slice bq1 x.regs.length bk1, .int .i64 x.pc, .slice bq2 x.mem.length bk2, .int .i64 x.save, .bool x.lets, .bool x.waits, .int .i64 x.halt, .slice bq3 x.ins.length bk3, .slice bq4 x.outs.length bk4, .int .i64 x.count], x) List.mem_cons_self).1.r.cell 0 _ rfl
        have bc1 := (S.out.box (X2, [.slice bq1 x.regs.length bk1, .int .i64 x.pc, .slice bq2 x.mem.length bk2, .int .i64 x.save, .bool x.lets, .bool x.waits, .int .i64 x.halt, .slice bq3 x.ins.length bk3, .slice bq4 x.outs.length bk4, .int .i64 x.count], x) List.mem_cons_self).1.r.cell 1 _ rfl
        have bc2 := (S.out.box (X2, [.slice bq1 x.regs.length bk1, .int .i64 x.pc, .slice bq2 x.mem.length bk2, .int .i64 x.save, .bool x.lets, .bool x.waits, .int .i64 x.halt, .slice bq3 x.ins.length bk3, .slice bq4 x.outs.length bk4, .int .i64 x.count], x) List.mem_cons_self).1.r.cell 2 _ rfl
        have bc3 := (S.out.box (X2, [.slice bq1 x.regs.length bk1, .int .i64 x.pc, .slice bq2 x.mem.length bk2, .int .i64 x.save, .bool x.lets, .bool x.waits, .int .i64 x.halt, .slice bq3 x.ins.length bk3, .slice bq4 x.outs.length bk4, .int .i64 x.count], x) List.mem_cons_self).1.r.cell 3 _ rfl
        have bc4 := (S.out.box (X2, [.slice bq1 x.regs.length bk1, .int .i64 x.pc, .slice bq2 x.mem.length bk2, .int .i64 x.save, .bool x.lets, .bool x.waits, .int .i64 x.halt, .slice bq3 x.ins.length bk3, .slice bq4 x.outs.length bk4, .int .i64 x.count], x) List.mem_cons_self).1.r.cell 4 _ rfl
        have bc5 := (S.out.box (X2, [.slice bq1 x.regs.length bk1, .int .i64 x.pc, .slice bq2 x.mem.length bk2, .int .i64 x.save, .bool x.lets, .bool x.waits, .int .i64 x.halt, .slice bq3 x.ins.length bk3, .slice bq4 x.outs.length bk4, .int .i64 x.count], x) List.mem_cons_self).1.r.cell 5 _ rfl
        have bc6 := (S.out.box (X2, [.slice bq1 x.regs.length bk1, .int .i64 x.pc, .slice bq2 x.mem.length bk2, .int .i64 x.save, .bool x.lets, .bool x.waits, .int .i64 x.halt, .slice bq3 x.ins.length bk3, .slice bq4 x.outs.length bk4, .int .i64 x.count], x) List.mem_cons_self).1.r.cell 6 _ rfl
        have bc7 := (S.out.box (X2, [.slice bq1 x.regs.length bk1, .int .i64 x.pc, .slice bq2 x.mem.length bk2, .int .i64 x.save, .bool x.lets, .bool x.waits, .int .i64 x.halt, .slice bq3 x.ins.length bk3, .slice bq4 x.outs.length bk4, .int .i64 x.count], x) List.mem_cons_self).1.r.cell 7 _ rfl
        have bc8 := (S.out.box (X2, [.slice bq1 x.regs.length bk1, .int .i64 x.pc, .slice bq2 x.mem.length bk2, .int .i64 x.save, .bool x.lets, .bool x.waits, .int .i64 x.halt, .slice bq3 x.ins.length bk3, .slice bq4 x.outs.length bk4, .int .i64 x.count], x) List.mem_cons_self).1.r.cell 8 _ rfl
        have bc9 := (S.out.box (X2, [.slice bq1 x.regs.length bk1, .int .i64 x.pc, .slice bq2 x.mem.length bk2, .int .i64 x.save, .bool x.lets, .bool x.waits, .int .i64 x.halt, .slice bq3 x.ins.length bk3, .slice bq4 x.outs.length bk4, .int .i64 x.count], x) List.mem_cons_self).1.r.cell 9 _ rfl
        go_wp2_with fail
        clear bc0 bc1 bc2 bc3 bc4 bc5 bc6 bc7 bc8 bc9
        generalize hI : wv5.heap.size = IB at S ⊢
        clear hI
        generalize wv5.alloc (.cells #[.int .i64 13, .int .i64 d, .int .i64 (A : Int), .int .i64 k] 38) = wv6 at S ⊢
        refine (wpIn_wide (n := 0)).1 ?_
        have S2 := hide S.out.drew
        clear S
        have S := S2
        clear S2
        refine PhaseIn.region (S := fun v => Sit w [(X2, [.slice bq1 x.regs.length bk1, .int .i64 x.pc, .slice bq2 x.mem.length bk2, .int .i64 x.save, .bool x.lets, .bool x.waits, .int .i64 x.halt, .slice bq3 x.ins.length bk3, .slice bq4 x.outs.length bk4, .int .i64 x.count], x), (X1, [.slice (some ⟨mB1, mO1, none⟩) m.regs.length ak1, .int .i64 m.pc, .slice (some ⟨mB2, mO2, none⟩) m.mem.length ak2, .int .i64 m.save, .bool m.lets, .bool m.waits, .int .i64 m.halt, .slice aq3 m.ins.length ak3, .slice aq4 m.outs.length ak4, .int .i64 m.count], m)] [(IB, (.slice (some ⟨IB, 0, none⟩) 4 4), [13, d, (A : Int), k])] v) 10 (by kernel_rfl) ?_
        generalize wv6.drew = wv7 at *
        have hHeld := S.out
        clear S
        refine PhaseIn.takeD (i := 0) (v := ?_) [0, 1, 8, 9] 92 rfl (by rfl) (by kernel_rfl) (by kernel_rfl) (by kernel_rfl) (by kernel_rfl) (by kernel_rfl) (fun _ _ _ h => h) (Or.inl ⟨by kernel_rfl, ?_⟩) hHeld ?_
        rotate_left
        · intro w' hSw
          (try dsimp only at hSw)
          go_simp
          first | done | with_reducible rfl
        try simp only [Act.put, List.setIfInBounds_toArray, List.set]
        refine PhaseIn.takeD (i := 1) (v := ?_) [1, 8, 9] 93 rfl (by rfl) (by kernel_rfl) (by kernel_rfl) (by kernel_rfl) (by kernel_rfl) (by kernel_rfl) (fun _ _ _ h => h) (Or.inl ⟨by kernel_rfl, ?_⟩) hHeld ?_
        rotate_left
        · intro w' hSw
          (try dsimp only at hSw)
          have z1 := (hSw.box (X2, [.slice bq1 x.regs.length bk1, .int .i64 x.pc, .slice bq2 x.mem.length bk2, .int .i64 x.save, .bool x.lets, .bool x.waits, .int .i64 x.halt, .slice bq3 x.ins.length bk3, .slice bq4 x.outs.length bk4, .int .i64 x.count], x) List.mem_cons_self).1.r.cell 1 _ rfl
          go_simp
          first | done | with_reducible rfl
        try simp only [Act.put, List.setIfInBounds_toArray, List.set]
        refine PhaseIn.takeD (i := 2) (v := ?_) [2, 3, 6, 7, 8, 9] 94 rfl (by rfl) (by kernel_rfl) (by kernel_rfl) (by kernel_rfl) (by kernel_rfl) (by kernel_rfl) (fun _ _ _ h => h) (Or.inl ⟨by kernel_rfl, ?_⟩) hHeld ?_
        rotate_left
        · intro w' hSw
          (try dsimp only at hSw)
          go_simp
          first | done | with_reducible rfl
        try simp only [Act.put, List.setIfInBounds_toArray, List.set]
        refine PhaseIn.takeD (i := 3) (v := ?_) [3, 6, 7, 8, 9] 95 rfl (by rfl) (by kernel_rfl) (by kernel_rfl) (by kernel_rfl) (by kernel_rfl) (by kernel_rfl) (fun _ _ _ h => h) (Or.inl ⟨by kernel_rfl, ?_⟩) hHeld ?_
        rotate_left
        · intro w' hSw
          (try dsimp only at hSw)
          have z0 := (hSw.box (X1, [.slice (some ⟨mB1, mO1, none⟩) m.regs.length ak1, .int .i64 m.pc, .slice (some ⟨mB2, mO2, none⟩) m.mem.length ak2, .int .i64 m.save, .bool m.lets, .bool m.waits, .int .i64 m.halt, .slice aq3 m.ins.length ak3, .slice aq4 m.outs.length ak4, .int .i64 m.count], m) (List.mem_cons_of_mem _ List.mem_cons_self)).1.r.cell 0 _ rfl
          go_simp
          first | done | with_reducible rfl
        try simp only [Act.put, List.setIfInBounds_toArray, List.set]
        refine PhaseIn.takeD (i := 4) (v := ?_) [4, 5, 6, 7, 8, 9] 96 rfl (by rfl) (by kernel_rfl) (by kernel_rfl) (by kernel_rfl) (by kernel_rfl) (by kernel_rfl) (fun _ _ _ h => h) (Or.inl ⟨by kernel_rfl, ?_⟩) hHeld ?_
        rotate_left
        · intro w' hSw
          (try dsimp only at hSw)
          go_simp
          first | done | with_reducible rfl
        try simp only [Act.put, List.setIfInBounds_toArray, List.set]
        refine PhaseIn.takeD (i := 5) (v := ?_) [5, 6, 7, 8, 9] 97 rfl (by rfl) (by kernel_rfl) (by kernel_rfl) (by kernel_rfl) (by kernel_rfl) (by kernel_rfl) (fun _ _ _ h => h) (Or.inl ⟨by kernel_rfl, ?_⟩) hHeld ?_
        rotate_left
        · intro w' hSw
          (try dsimp only at hSw)
          have zz := row_cell (hSw.row (IB, (.slice (some ⟨IB, 0, none⟩) 4 4), [13, d, (A : Int), k]) List.mem_cons_self) (i := 2) rfl
          rw [Nat.zero_add] at zz
          go_simp
          first | done | with_reducible rfl
        try simp only [Act.put, List.setIfInBounds_toArray, List.set]
        refine PhaseIn.takeD (i := 6) (v := ?_) [6, 7, 8, 9] 98 rfl (by rfl) (by kernel_rfl) (by kernel_rfl) (by kernel_rfl) (by kernel_rfl) (by kernel_rfl) (fun _ _ _ h => h) (Or.inl ⟨by kernel_rfl, ?_⟩) hHeld ?_
        rotate_left
        · intro w' hSw
          (try dsimp only at hSw)
          go_simp
          first | done | with_reducible rfl
        try simp only [Act.put, List.setIfInBounds_toArray, List.set]
        refine PhaseIn.takeD (i := 7) (v := ?_) [7, 8, 9] 99 rfl (by rfl) (by kernel_rfl) (by kernel_rfl) (by kernel_rfl) (by kernel_rfl) (by kernel_rfl) (fun _ _ _ h => h) (Or.inl ⟨by kernel_rfl, ?_⟩) hHeld ?_
        rotate_left
        · intro w' hSw
          (try dsimp only at hSw)
          obtain ⟨_, hrow⟩ := (RMach.rows (m := m) (hSw.box (X1, [.slice (some ⟨mB1, mO1, none⟩) m.regs.length ak1, .int .i64 m.pc, .slice (some ⟨mB2, mO2, none⟩) m.mem.length ak2, .int .i64 m.save, .bool m.lets, .bool m.waits, .int .i64 m.halt, .slice aq3 m.ins.length ak3, .slice aq4 m.outs.length ak4, .int .i64 m.count], m) (List.mem_cons_of_mem _ List.mem_cons_self)).2).1
          have zz := row_cell hrow HRV.out
          go_simp
          first | done | with_reducible rfl
        try simp only [Act.put, List.setIfInBounds_toArray, List.set]
        refine PhaseIn.takeD (i := 8) (v := ?_) [8, 9] 100 rfl (by rfl) (by kernel_rfl) (by kernel_rfl) (by kernel_rfl) (by kernel_rfl) (by kernel_rfl) (fun _ _ _ h => h) (Or.inl ⟨by kernel_rfl, ?_⟩) hHeld ?_
        rotate_left
        · intro w' hSw
          (try dsimp only at hSw)
          go_simp
          first | done | with_reducible rfl
        try simp only [Act.put, List.setIfInBounds_toArray, List.set]
        refine PhaseIn.takeD (i := 9) (v := ?_) [9] 2 rfl (by rfl) (by kernel_rfl) (by kernel_rfl) (by kernel_rfl) (by kernel_rfl) (by kernel_rfl) (fun _ _ _ h => h) (Or.inl ⟨by kernel_rfl, ?_⟩) hHeld ?_
        rotate_left
        · intro w' hSw
          (try dsimp only at hSw)
          go_simp
          first | done | with_reducible rfl
        try simp only [Act.put, List.setIfInBounds_toArray, List.set]
        refine PhaseIn.done (by kernel_rfl) ?_ _
        have S := hide hHeld
        clear hHeld
        have FIN := hide S.out.bw
        clear S
        go_wp2
        go_ret
        exact ⟨rfl, FIN.out⟩
      · have f0 : (x.halt != 0) = false := by rw [k1]; rfl
        clear k1 pw ab
        by_cases e1 : k = 1
        · subst e1
          rcases k2 with k2 | ⟨k2, k3⟩
          · exact absurd rfl k2
          have f1 : (x.pc == m.save) = true := by rw [k2]; simp
          clear k2
          have S2 := hide (S.out.below ((Below.refl _ _).alloc (Nat.le_refl _) (.cells #[.int .i64 0, .int .i64 d, .int .i64 a, .int .i64 1] 38)))
          clear S
          have S := S2
          clear S2
          have ac0 := (S.out.box (X1, [.slice (some ⟨mB1, mO1, none⟩) m.regs.length ak1, .int .i64 m.pc, .slice (some ⟨mB2, mO2, none⟩) m.mem.length ak2, .int .i64 m.save, .bool m.lets, .bool m.waits, .int .i64 m.halt, .slice aq3 m.ins.length ak3, .slice aq4 m.outs.length ak4, .int .i64 m.count], m) (List.mem_cons_of_mem _ List.mem_cons_self)).1.r.cell 0 _ rfl
          have ac1 := (S.out.box (X1, [.slice (some ⟨mB1, mO1, none⟩) m.regs.length ak1, .int .i64 m.pc, .slice (some ⟨mB2, mO2, none⟩) m.mem.length ak2, .int .i64 m.save, .bool m.lets, .bool m.waits, .int .i64 m.halt, .slice aq3 m.ins.length ak3, .slice aq4 m.outs.length ak4, .int .i64 m.count], m) (List.mem_cons_of_mem _ List.mem_cons_self)).1.r.cell 1 _ rfl
          have ac2 := (S.out.box (X1, [.slice (some ⟨mB1, mO1, none⟩) m.regs.length ak1, .int .i64 m.pc, .slice (some ⟨mB2, mO2, none⟩) m.mem.length ak2, .int .i64 m.save, .bool m.lets, .bool m.waits, .int .i64 m.halt, .slice aq3 m.ins.length ak3, .slice aq4 m.outs.length ak4, .int .i64 m.count], m) (List.mem_cons_of_mem _ List.mem_cons_self)).1.r.cell 2 _ rfl
          have ac3 := (S.out.box (X1, [.slice (some ⟨mB1, mO1, none⟩) m.regs.length ak1, .int .i64 m.pc, .slice (some ⟨mB2, mO2, none⟩) m.mem.length ak2, .int .i64 m.save, .bool m.lets, .bool m.waits, .int .i64 m.halt, .slice aq3 m.ins.length ak3, .slice aq4 m.outs.length ak4, .int .i64 m.count], m) (List.mem_cons_of_mem _ List.mem_cons_self)).1.r.cell 3 _ rfl
          have ac4 := (S.out.box (X1, [.slice (some ⟨mB1, mO1, none⟩) m.regs.length ak1, .int .i64 m.pc, .slice (some ⟨mB2, mO2, none⟩) m.mem.length ak2, .int .i64 m.save, .bool m.lets, .bool m.waits, .int .i64 m.halt, .slice aq3 m.ins.length ak3, .slice aq4 m.outs.length ak4, .int .i64 m.count], m) (List.mem_cons_of_mem _ List.mem_cons_self)).1.r.cell 4 _ rfl
          have ac5 := (S.out.box (X1, [.slice (some ⟨mB1, mO1, none⟩) m.regs.length ak1, .int .i64 m.pc, .slice (some ⟨mB2, mO2, none⟩) m.mem.length ak2, .int .i64 m.save, .bool m.lets, .bool m.waits, .int .i64 m.halt, .slice aq3 m.ins.length ak3, .slice aq4 m.outs.length ak4, .int .i64 m.count], m) (List.mem_cons_of_mem _ List.mem_cons_self)).1.r.cell 5 _ rfl
          have ac6 := (S.out.box (X1, [.slice (some ⟨mB1, mO1, none⟩) m.regs.length ak1, .int .i64 m.pc, .slice (some ⟨mB2, mO2, none⟩) m.mem.length ak2, .int .i64 m.save, .bool m.lets, .bool m.waits, .int .i64 m.halt, .slice aq3 m.ins.length ak3, .slice aq4 m.outs.length ak4, .int .i64 m.count], m) (List.mem_cons_of_mem _ List.mem_cons_self)).1.r.cell 6 _ rfl
          have ac7 := (S.out.box (X1, [.slice (some ⟨mB1, mO1, none⟩) m.regs.length ak1, .int .i64 m.pc, .slice (some ⟨mB2, mO2, none⟩) m.mem.length ak2, .int .i64 m.save, .bool m.lets, .bool m.waits, .int .i64 m.halt, .slice aq3 m.ins.length ak3, .slice aq4 m.outs.length ak4, .int .i64 m.count], m) (List.mem_cons_of_mem _ List.mem_cons_self)).1.r.cell 7 _ rfl
          have ac8 := (S.out.box (X1, [.slice (some ⟨mB1, mO1, none⟩) m.regs.length ak1, .int .i64 m.pc, .slice (some ⟨mB2, mO2, none⟩) m.mem.length ak2, .int .i64 m.save, .bool m.lets, .bool m.waits, .int .i64 m.halt, .slice aq3 m.ins.length ak3, .slice aq4 m.outs.length ak4, .int .i64 m.count], m) (List.mem_cons_of_mem _ List.mem_cons_self)).1.r.cell 8 _ rfl
          have ac9 := (S.out.box (X1, [.slice (some ⟨mB1, mO1, none⟩) m.regs.length ak1, .int .i64 m.pc, .slice (some ⟨mB2, mO2, none⟩) m.mem.length ak2, .int .i64 m.save, .bool m.lets, .bool m.waits, .int .i64 m.halt, .slice aq3 m.ins.length ak3, .slice aq4 m.outs.length ak4, .int .i64 m.count], m) (List.mem_cons_of_mem _ List.mem_cons_self)).1.r.cell 9 _ rfl
          have bc0 := (S.out.box (X2, [.slice bq1 x.regs.length bk1, .int .i64 x.pc, .slice bq2 x.mem.length bk2, .int .i64 x.save, .bool x.lets, .bool x.waits, .int .i64 x.halt, .slice bq3 x.ins.length bk3, .slice bq4 x.outs.length bk4, .int .i64 x.count], x) List.mem_cons_self).1.r.cell 0 _ rfl
          have bc1 := (S.out.box (X2, [.slice bq1 x.regs.length bk1, .int .i64 x.pc, .slice bq2 x.mem.length bk2, .int .i64 x.save, .bool x.lets, .bool x.waits, .int .i64 x.halt, .slice bq3 x.ins.length bk3, .slice bq4 x.outs.length bk4, .int .i64 x.count], x) List.mem_cons_self).1.r.cell 1 _ rfl
          have bc2 := (S.out.box (X2, [.slice bq1 x.regs.length bk1, .int .i64 x.pc, .slice bq2 x.mem.length bk2, .int .i64 x.save, .bool x.lets, .bool x.waits, .int .i64 x.halt, .slice bq3 x.ins.length bk3, .slice bq4 x.outs.length bk4, .int .i64 x.count], x) List.mem_cons_self).1.r.cell 2 _ rfl
          have bc3 := (S.out.box (X2, [.slice bq1 x.regs.length bk1, .int .i64 x.pc, .slice bq2 x.mem.length bk2, .int .i64 x.save, .bool x.lets, .bool x.waits, .int .i64 x.halt, .slice bq3 x.ins.length bk3, .slice bq4 x.outs.length bk4, .int .i64 x.count], x) List.mem_cons_self).1.r.cell 3 _ rfl
          have bc4 := (S.out.box (X2, [.slice bq1 x.regs.length bk1, .int .i64 x.pc, .slice bq2 x.mem.length bk2, .int .i64 x.save, .bool x.lets, .bool x.waits, .int .i64 x.halt, .slice bq3 x.ins.length bk3, .slice bq4 x.outs.length bk4, .int .i64 x.count], x) List.mem_cons_self).1.r.cell 4 _ rfl
          have bc5 := (S.out.box (X2, [.slice bq1 x.regs.length bk1, .int .i64 x.pc, .slice bq2 x.mem.length bk2, .int .i64 x.save, .bool x.lets, .bool x.waits, .int .i64 x.halt, .slice bq3 x.ins.length bk3, .slice bq4 x.outs.length bk4, .int .i64 x.count], x) List.mem_cons_self).1.r.cell 5 _ rfl
          have bc6 := (S.out.box (X2, [.slice bq1 x.regs.length bk1, .int .i64 x.pc, .slice bq2 x.mem.length bk2, .int .i64 x.save, .bool x.lets, .bool x.waits, .int .i64 x.halt, .slice bq3 x.ins.length bk3, .slice bq4 x.outs.length bk4, .int .i64 x.count], x) List.mem_cons_self).1.r.cell 6 _ rfl
          have bc7 := (S.out.box (X2, [.slice bq1 x.regs.length bk1, .int .i64 x.pc, .slice bq2 x.mem.length bk2, .int .i64 x.save, .bool x.lets, .bool x.waits, .int .i64 x.halt, .slice bq3 x.ins.length bk3, .slice bq4 x.outs.length bk4, .int .i64 x.count], x) List.mem_cons_self).1.r.cell 7 _ rfl
          have bc8 := (S.out.box (X2, [.slice bq1 x.regs.length bk1, .int .i64 x.pc, .slice bq2 x.mem.length bk2, .int .i64 x.save, .bool x.lets, .bool x.waits, .int .i64 x.halt, .slice bq3 x.ins.length bk3, .slice bq4 x.outs.length bk4, .int .i64 x.count], x) List.mem_cons_self).1.r.cell 8 _ rfl
          have bc9 := (S.out.box (X2, [.slice bq1 x.regs.length bk1, .int .i64 x.pc, .slice bq2 x.mem.length bk2, .int .i64 x.save, .bool x.lets, .bool x.waits, .int .i64 x.halt, .slice bq3 x.ins.length bk3, .slice bq4 x.outs.length bk4, .int .i64 x.count], x) List.mem_cons_self).1.r.cell 9 _ rfl
          have FIN := hide S.out.bw
          clear S
          go_wp2
          go_ret
          exact ⟨rfl, FIN.out⟩
        · have f1 : (k != 1) = true := bne_iff_ne.2 e1
          clear k2 e1
          have S2 := hide (S.out.below ((Below.refl _ _).alloc (Nat.le_refl _) (.cells #[.int .i64 0, .int .i64 d, .int .i64 a, .int .i64 k] 38)))
          clear S
          have S := S2
          clear S2
          have ac0 := (S.out.box (X1, [.slice (some ⟨mB1, mO1, none⟩) m.regs.length ak1, .int .i64 m.pc, .slice (some ⟨mB2, mO2, none⟩) m.mem.length ak2, .int .i64 m.save, .bool m.lets, .bool m.waits, .int .i64 m.halt, .slice aq3 m.ins.length ak3, .slice aq4 m.outs.length ak4, .int .i64 m.count], m) (List.mem_cons_of_mem _ List.mem_cons_self)).1.r.cell 0 _ rfl
          have ac1 := (S.out.box (X1, [.slice (some ⟨mB1, mO1, none⟩) m.regs.length ak1, .int .i64 m.pc, .slice (some ⟨mB2, mO2, none⟩) m.mem.length ak2, .int .i64 m.save, .bool m.lets, .bool m.waits, .int .i64 m.halt, .slice aq3 m.ins.length ak3, .slice aq4 m.outs.length ak4, .int .i64 m.count], m) (List.mem_cons_of_mem _ List.mem_cons_self)).1.r.cell 1 _ rfl
          have ac2 := (S.out.box (X1, [.slice (some ⟨mB1, mO1, none⟩) m.regs.length ak1, .int .i64 m.pc, .slice (some ⟨mB2, mO2, none⟩) m.mem.length ak2, .int .i64 m.save, .bool m.lets, .bool m.waits, .int .i64 m.halt, .slice aq3 m.ins.length ak3, .slice aq4 m.outs.length ak4, .int .i64 m.count], m) (List.mem_cons_of_mem _ List.mem_cons_self)).1.r.cell 2 _ rfl
          have ac3 := (S.out.box (X1, [.slice (some ⟨mB1, mO1, none⟩) m.regs.length ak1, .int .i64 m.pc, .slice (some ⟨mB2, mO2, none⟩) m.mem.length ak2, .int .i64 m.save, .bool m.lets, .bool m.waits, .int .i64 m.halt, .slice aq3 m.ins.length ak3, .slice aq4 m.outs.length ak4, .int .i64 m.count], m) (List.mem_cons_of_mem _ List.mem_cons_self)).1.r.cell 3 _ rfl
          have ac4 := (S.out.box (X1, [.slice (some ⟨mB1, mO1, none⟩) m.regs.length ak1, .int .i64 m.pc, .slice (some ⟨mB2, mO2, none⟩) m.mem.length ak2, .int .i64 m.save, .bool m.lets, .bool m.waits, .int .i64 m.halt, .slice aq3 m.ins.length ak3, .slice aq4 m.outs.length ak4, .int .i64 m.count], m) (List.mem_cons_of_mem _ List.mem_cons_self)).1.r.cell 4 _ rfl
          have ac5 := (S.out.box (X1, [.slice (some ⟨mB1, mO1, none⟩) m.regs.length ak1, .int .i64 m.pc, .slice (some ⟨mB2, mO2, none⟩) m.mem.length ak2, .int .i64 m.save, .bool m.lets, .bool m.waits, .int .i64 m.halt, .slice aq3 m.ins.length ak3, .slice aq4 m.outs.length ak4, .int .i64 m.count], m) (List.mem_cons_of_mem _ List.mem_cons_self)).1.r.cell 5 _ rfl
          have ac6 := (S.out.box (X1, [.slice (some ⟨mB1, mO1, none⟩) m.regs.length ak1, .int .i64 m.pc, .slice (some ⟨mB2, mO2, none⟩) m.mem.length ak2, .int .i64 m.save, .bool m.lets, .bool m.waits, .int .i64 m.halt, .slice aq3 m.ins.length ak3, .slice aq4 m.outs.length ak4, .int .i64 m.count], m) (List.mem_cons_of_mem _ List.mem_cons_self)).1.r.cell 6 _ rfl
          have ac7 := (S.out.box (X1, [.slice (some ⟨mB1, mO1, none⟩) m.regs.length ak1, .int .i64 m.pc, .slice (some ⟨mB2, mO2, none⟩) m.mem.length ak2, .int .i64 m.save, .bool m.lets, .bool m.waits, .int .i64 m.halt, .slice aq3 m.ins.length ak3, .slice aq4 m.outs.length ak4, .int .i64 m.count], m) (List.mem_cons_of_mem _ List.mem_cons_self)).1.r.cell 7 _ rfl
          have ac8 := (S.out.box (X1, [.slice (some ⟨mB1, mO1, none⟩) m.regs.length ak1, .int .i64 m.pc, .slice (some ⟨mB2, mO2, none⟩) m.mem.length ak2, .int .i64 m.save, .bool m.lets, .bool m.waits, .int .i64 m.halt, .slice aq3 m.ins.length ak3, .slice aq4 m.outs.length ak4, .int .i64 m.count], m) (List.mem_cons_of_mem _ List.mem_cons_self)).1.r.cell 8 _ rfl
          have ac9 := (S.out.box (X1, [.slice (some ⟨mB1, mO1, none⟩) m.regs.length ak1, .int .i64 m.pc, .slice (some ⟨mB2, mO2, none⟩) m.mem.length ak2, .int .i64 m.save, .bool m.lets, .bool m.waits, .int .i64 m.halt, .slice aq3 m.ins.length ak3, .slice aq4 m.outs.length ak4, .int .i64 m.count], m) (List.mem_cons_of_mem _ List.mem_cons_self)).1.r.cell 9 _ rfl
          have bc0 := (S.out.box (X2, [.slice bq1 x.regs.length bk1, .int .i64 x.pc, .slice bq2 x.mem.length bk2, .int .i64 x.save, .bool x.lets, .bool x.waits, .int .i64 x.halt, .slice bq3 x.ins.length bk3, .slice bq4 x.outs.length bk4, .int .i64 x.count], x) List.mem_cons_self).1.r.cell 0 _ rfl
          have bc1 := (S.out.box (X2, [.slice bq1 x.regs.length bk1, .int .i64 x.pc, .slice bq2 x.mem.length bk2, .int .i64 x.save, .bool x.lets, .bool x.waits, .int .i64 x.halt, .slice bq3 x.ins.length bk3, .slice bq4 x.outs.length bk4, .int .i64 x.count], x) List.mem_cons_self).1.r.cell 1 _ rfl
          have bc2 := (S.out.box (X2, [.slice bq1 x.regs.length bk1, .int .i64 x.pc, .slice bq2 x.mem.length bk2, .int .i64 x.save, .bool x.lets, .bool x.waits, .int .i64 x.halt, .slice bq3 x.ins.length bk3, .slice bq4 x.outs.length bk4, .int .i64 x.count], x) List.mem_cons_self).1.r.cell 2 _ rfl
          have bc3 := (S.out.box (X2, [.slice bq1 x.regs.length bk1, .int .i64 x.pc, .slice bq2 x.mem.length bk2, .int .i64 x.save, .bool x.lets, .bool x.waits, .int .i64 x.halt, .slice bq3 x.ins.length bk3, .slice bq4 x.outs.length bk4, .int .i64 x.count], x) List.mem_cons_self).1.r.cell 3 _ rfl
          have bc4 := (S.out.box (X2, [.slice bq1 x.regs.length bk1, .int .i64 x.pc, .slice bq2 x.mem.length bk2, .int .i64 x.save, .bool x.lets, .bool x.waits, .int .i64 x.halt, .slice bq3 x.ins.length bk3, .slice bq4 x.outs.length bk4, .int .i64 x.count], x) List.mem_cons_self).1.r.cell 4 _ rfl
          have bc5 := (S.out.box (X2, [.slice bq1 x.regs.length bk1, .int .i64 x.pc, .slice bq2 x.mem.length bk2, .int .i64 x.save, .bool x.lets, .bool x.waits, .int .i64 x.halt, .slice bq3 x.ins.length bk3, .slice bq4 x.outs.length bk4, .int .i64 x.count], x) List.mem_cons_self).1.r.cell 5 _ rfl
          have bc6 := (S.out.box (X2, [.slice bq1 x.regs.length bk1, .int .i64 x.pc, .slice bq2 x.mem.length bk2, .int .i64 x.save, .bool x.lets, .bool x.waits, .int .i64 x.halt, .slice bq3 x.ins.length bk3, .slice bq4 x.outs.length bk4, .int .i64 x.count], x) List.mem_cons_self).1.r.cell 6 _ rfl
          have bc7 := (S.out.box (X2, [.slice bq1 x.regs.length bk1, .int .i64 x.pc, .slice bq2 x.mem.length bk2, .int .i64 x.save, .bool x.lets, .bool x.waits, .int .i64 x.halt, .slice bq3 x.ins.length bk3, .slice bq4 x.outs.length bk4, .int .i64 x.count], x) List.mem_cons_self).1.r.cell 7 _ rfl
          have bc8 := (S.out.box (X2, [.slice bq1 x.regs.length bk1, .int .i64 x.pc, .slice bq2 x.mem.length bk2, .int .i64 x.save, .bool x.lets, .bool x.waits, .int .i64 x.halt, .slice bq3 x.ins.length bk3, .slice bq4 x.outs.length bk4, .int .i64 x.count], x) List.mem_cons_self).1.r.cell 8 _ rfl
          have bc9 := (S.out.box (X2, [.slice bq1 x.regs.length bk1, .int .i64 x.pc, .slice bq2 x.mem.length bk2, .int .i64 x.save, .bool x.lets, .bool x.waits, .int .i64 x.halt, .slice bq3 x.ins.length bk3, .slice bq4 x.outs.length bk4, .int .i64 x.count], x) List.mem_cons_self).1.r.cell 9 _ rfl
          have FIN := hide S.out.bw
          clear S
          go_wp2
          go_ret
          exact ⟨rfl, FIN.out⟩
      · have f0 : (x.halt != 0) = false := by rw [k1]; rfl
        have f1 : (op == 13) = false := beq_eq_false_iff_ne.2 k2
        have f2 : (op == 0) = false := beq_eq_false_iff_ne.2 k3
        clear k1 k2 k3 ab
        have hw1 : IntKind.i64.wrap ((P : Int) + 1) = (P : Int) + 1 := IntWalk.i64_in _ ⟨by omega, by omega⟩
        have hw2 : IntKind.i64.wrap (m.pc + 1) = m.pc + 1 := by rw [HPP.out]; exact hw1
        by_cases e1 : x.pc = m.pc + 1
        · have f3 : (x.pc == (P : Int) + 1) = true := by rw [pw _ e1]; simp
          have f4 : (x.pc == m.pc + 1) = true := by rw [e1]; simp
          clear k4 e1 pw
          have S2 := hide (S.out.below ((Below.refl _ _).alloc (Nat.le_refl _) (.cells #[.int .i64 op, .int .i64 d, .int .i64 a, .int .i64 k] 38)))
          clear S
          have S := S2
          clear S2
          have ac0 := (S.out.box (X1, [.slice (some ⟨mB1, mO1, none⟩) m.regs.length ak1, .int .i64 m.pc, .slice (some ⟨mB2, mO2, none⟩) m.mem.length ak2, .int .i64 m.save, .bool m.lets, .bool m.waits, .int .i64 m.halt, .slice aq3 m.ins.length ak3, .slice aq4 m.outs.length ak4, .int .i64 m.count], m) (List.mem_cons_of_mem _ List.mem_cons_self)).1.r.cell 0 _ rfl
          have ac1 := (S.out.box (X1, [.slice (some ⟨mB1, mO1, none⟩) m.regs.length ak1, .int .i64 m.pc, .slice (some ⟨mB2, mO2, none⟩) m.mem.length ak2, .int .i64 m.save, .bool m.lets, .bool m.waits, .int .i64 m.halt, .slice aq3 m.ins.length ak3, .slice aq4 m.outs.length ak4, .int .i64 m.count], m) (List.mem_cons_of_mem _ List.mem_cons_self)).1.r.cell 1 _ rfl
          have ac2 := (S.out.box (X1, [.slice (some ⟨mB1, mO1, none⟩) m.regs.length ak1, .int .i64 m.pc, .slice (some ⟨mB2, mO2, none⟩) m.mem.length ak2, .int .i64 m.save, .bool m.lets, .bool m.waits, .int .i64 m.halt, .slice aq3 m.ins.length ak3, .slice aq4 m.outs.length ak4, .int .i64 m.count], m) (List.mem_cons_of_mem _ List.mem_cons_self)).1.r.cell 2 _ rfl
          have ac3 := (S.out.box (X1, [.slice (some ⟨mB1, mO1, none⟩) m.regs.length ak1, .int .i64 m.pc, .slice (some ⟨mB2, mO2, none⟩) m.mem.length ak2, .int .i64 m.save, .bool m.lets, .bool m.waits, .int .i64 m.halt, .slice aq3 m.ins.length ak3, .slice aq4 m.outs.length ak4, .int .i64 m.count], m) (List.mem_cons_of_mem _ List.mem_cons_self)).1.r.cell 3 _ rfl
          have ac4 := (S.out.box (X1, [.slice (some ⟨mB1, mO1, none⟩) m.regs.length ak1, .int .i64 m.pc, .slice (some ⟨mB2, mO2, none⟩) m.mem.length ak2, .int .i64 m.save, .bool m.lets, .bool m.waits, .int .i64 m.halt, .slice aq3 m.ins.length ak3, .slice aq4 m.outs.length ak4, .int .i64 m.count], m) (List.mem_cons_of_mem _ List.mem_cons_self)).1.r.cell 4 _ rfl
          have ac5 := (S.out.box (X1, [.slice (some ⟨mB1, mO1, none⟩) m.regs.length ak1, .int .i64 m.pc, .slice (some ⟨mB2, mO2, none⟩) m.mem.length ak2, .int .i64 m.save, .bool m.lets, .bool m.waits, .int .i64 m.halt, .slice aq3 m.ins.length ak3, .slice aq4 m.outs.length ak4, .int .i64 m.count], m) (List.mem_cons_of_mem _ List.mem_cons_self)).1.r.cell 5 _ rfl
          have ac6 := (S.out.box (X1, [.slice (some ⟨mB1, mO1, none⟩) m.regs.length ak1, .int .i64 m.pc, .slice (some ⟨mB2, mO2, none⟩) m.mem.length ak2, .int .i64 m.save, .bool m.lets, .bool m.waits, .int .i64 m.halt, .slice aq3 m.ins.length ak3, .slice aq4 m.outs.length ak4, .int .i64 m.count], m) (List.mem_cons_of_mem _ List.mem_cons_self)).1.r.cell 6 _ rfl
          have ac7 := (S.out.box (X1, [.slice (some ⟨mB1, mO1, none⟩) m.regs.length ak1, .int .i64 m.pc, .slice (some ⟨mB2, mO2, none⟩) m.mem.length ak2, .int .i64 m.save, .bool m.lets, .bool m.waits, .int .i64 m.halt, .slice aq3 m.ins.length ak3, .slice aq4 m.outs.length ak4, .int .i64 m.count], m) (List.mem_cons_of_mem _ List.mem_cons_self)).1.r.cell 7 _ rfl
          have ac8 := (S.out.box (X1, [.slice (some ⟨mB1, mO1, none⟩) m.regs.length ak1, .int .i64 m.pc, .slice (some ⟨mB2, mO2, none⟩) m.mem.length ak2, .int .i64 m.save, .bool m.lets, .bool m.waits, .int .i64 m.halt, .slice aq3 m.ins.length ak3, .slice aq4 m.outs.length ak4, .int .i64 m.count], m) (List.mem_cons_of_mem _ List.mem_cons_self)).1.r.cell 8 _ rfl
          have ac9 := (S.out.box (X1, [.slice (some ⟨mB1, mO1, none⟩) m.regs.length ak1, .int .i64 m.pc, .slice (some ⟨mB2, mO2, none⟩) m.mem.length ak2, .int .i64 m.save, .bool m.lets, .bool m.waits, .int .i64 m.halt, .slice aq3 m.ins.length ak3, .slice aq4 m.outs.length ak4, .int .i64 m.count], m) (List.mem_cons_of_mem _ List.mem_cons_self)).1.r.cell 9 _ rfl
          have bc0 := (S.out.box (X2, [.slice bq1 x.regs.length bk1, .int .i64 x.pc, .slice bq2 x.mem.length bk2, .int .i64 x.save, .bool x.lets, .bool x.waits, .int .i64 x.halt, .slice bq3 x.ins.length bk3, .slice bq4 x.outs.length bk4, .int .i64 x.count], x) List.mem_cons_self).1.r.cell 0 _ rfl
          have bc1 := (S.out.box (X2, [.slice bq1 x.regs.length bk1, .int .i64 x.pc, .slice bq2 x.mem.length bk2, .int .i64 x.save, .bool x.lets, .bool x.waits, .int .i64 x.halt, .slice bq3 x.ins.length bk3, .slice bq4 x.outs.length bk4, .int .i64 x.count], x) List.mem_cons_self).1.r.cell 1 _ rfl
          have bc2 := (S.out.box (X2, [.slice bq1 x.regs.length bk1, .int .i64 x.pc, .slice bq2 x.mem.length bk2, .int .i64 x.save, .bool x.lets, .bool x.waits, .int .i64 x.halt, .slice bq3 x.ins.length bk3, .slice bq4 x.outs.length bk4, .int .i64 x.count], x) List.mem_cons_self).1.r.cell 2 _ rfl
          have bc3 := (S.out.box (X2, [.slice bq1 x.regs.length bk1, .int .i64 x.pc, .slice bq2 x.mem.length bk2, .int .i64 x.save, .bool x.lets, .bool x.waits, .int .i64 x.halt, .slice bq3 x.ins.length bk3, .slice bq4 x.outs.length bk4, .int .i64 x.count], x) List.mem_cons_self).1.r.cell 3 _ rfl
          have bc4 := (S.out.box (X2, [.slice bq1 x.regs.length bk1, .int .i64 x.pc, .slice bq2 x.mem.length bk2, .int .i64 x.save, .bool x.lets, .bool x.waits, .int .i64 x.halt, .slice bq3 x.ins.length bk3, .slice bq4 x.outs.length bk4, .int .i64 x.count], x) List.mem_cons_self).1.r.cell 4 _ rfl
          have bc5 := (S.out.box (X2, [.slice bq1 x.regs.length bk1, .int .i64 x.pc, .slice bq2 x.mem.length bk2, .int .i64 x.save, .bool x.lets, .bool x.waits, .int .i64 x.halt, .slice bq3 x.ins.length bk3, .slice bq4 x.outs.length bk4, .int .i64 x.count], x) List.mem_cons_self).1.r.cell 5 _ rfl
          have bc6 := (S.out.box (X2, [.slice bq1 x.regs.length bk1, .int .i64 x.pc, .slice bq2 x.mem.length bk2, .int .i64 x.save, .bool x.lets, .bool x.waits, .int .i64 x.halt, .slice bq3 x.ins.length bk3, .slice bq4 x.outs.length bk4, .int .i64 x.count], x) List.mem_cons_self).1.r.cell 6 _ rfl
          have bc7 := (S.out.box (X2, [.slice bq1 x.regs.length bk1, .int .i64 x.pc, .slice bq2 x.mem.length bk2, .int .i64 x.save, .bool x.lets, .bool x.waits, .int .i64 x.halt, .slice bq3 x.ins.length bk3, .slice bq4 x.outs.length bk4, .int .i64 x.count], x) List.mem_cons_self).1.r.cell 7 _ rfl
          have bc8 := (S.out.box (X2, [.slice bq1 x.regs.length bk1, .int .i64 x.pc, .slice bq2 x.mem.length bk2, .int .i64 x.save, .bool x.lets, .bool x.waits, .int .i64 x.halt, .slice bq3 x.ins.length bk3, .slice bq4 x.outs.length bk4, .int .i64 x.count], x) List.mem_cons_self).1.r.cell 8 _ rfl
          have bc9 := (S.out.box (X2, [.slice bq1 x.regs.length bk1, .int .i64 x.pc, .slice bq2 x.mem.length bk2, .int .i64 x.save, .bool x.lets, .bool x.waits, .int .i64 x.halt, .slice bq3 x.ins.length bk3, .slice bq4 x.outs.length bk4, .int .i64 x.count], x) List.mem_cons_self).1.r.cell 9 _ rfl
          have FIN := hide S.out.bw
          clear S
          go_wp2
          go_ret
          exact ⟨rfl, FIN.out⟩
        · obtain ⟨en, kk⟩ := k4.resolve_left e1
          have f3 : (x.pc == (P : Int) + 1) = false := beq_eq_false_iff_ne.2 (fun h => e1 (by rw [h, HPP.out]))
          have f4 : (x.pc == m.pc + 1) = false := beq_eq_false_iff_ne.2 e1
          have f5 : (x.pc == k) = true := by rw [kk]; simp
          have EN := hide en
          clear k4 e1 kk pw en
          have S2 := hide (S.out.below ((Below.refl _ _).alloc (Nat.le_refl _) (.cells #[.int .i64 op, .int .i64 d, .int .i64 a, .int .i64 k] 38)))
          clear S
          have S := S2
          clear S2
          have ac0 := (S.out.box (X1, [.slice (some ⟨mB1, mO1, none⟩) m.regs.length ak1, .int .i64 m.pc, .slice (some ⟨mB2, mO2, none⟩) m.mem.length ak2, .int .i64 m.save, .bool m.lets, .bool m.waits, .int .i64 m.halt, .slice aq3 m.ins.length ak3, .slice aq4 m.outs.length ak4, .int .i64 m.count], m) (List.mem_cons_of_mem _ List.mem_cons_self)).1.r.cell 0 _ rfl
          have ac1 := (S.out.box (X1, [.slice (some ⟨mB1, mO1, none⟩) m.regs.length ak1, .int .i64 m.pc, .slice (some ⟨mB2, mO2, none⟩) m.mem.length ak2, .int .i64 m.save, .bool m.lets, .bool m.waits, .int .i64 m.halt, .slice aq3 m.ins.length ak3, .slice aq4 m.outs.length ak4, .int .i64 m.count], m) (List.mem_cons_of_mem _ List.mem_cons_self)).1.r.cell 1 _ rfl
          have ac2 := (S.out.box (X1, [.slice (some ⟨mB1, mO1, none⟩) m.regs.length ak1, .int .i64 m.pc, .slice (some ⟨mB2, mO2, none⟩) m.mem.length ak2, .int .i64 m.save, .bool m.lets, .bool m.waits, .int .i64 m.halt, .slice aq3 m.ins.length ak3, .slice aq4 m.outs.length ak4, .int .i64 m.count], m) (List.mem_cons_of_mem _ List.mem_cons_self)).1.r.cell 2 _ rfl
          have ac3 := (S.out.box (X1, [.slice (some ⟨mB1, mO1, none⟩) m.regs.length ak1, .int .i64 m.pc, .slice (some ⟨mB2, mO2, none⟩) m.mem.length ak2, .int .i64 m.save, .bool m.lets, .bool m.waits, .int .i64 m.halt, .slice aq3 m.ins.length ak3, .slice aq4 m.outs.length ak4, .int .i64 m.count], m) (List.mem_cons_of_mem _ List.mem_cons_self)).1.r.cell 3 _ rfl
          have ac4 := (S.out.box (X1, [.slice (some ⟨mB1, mO1, none⟩) m.regs.length ak1, .int .i64 m.pc, .slice (some ⟨mB2, mO2, none⟩) m.mem.length ak2, .int .i64 m.save, .bool m.lets, .bool m.waits, .int .i64 m.halt, .slice aq3 m.ins.length ak3, .slice aq4 m.outs.length ak4, .int .i64 m.count], m) (List.mem_cons_of_mem _ List.mem_cons_self)).1.r.cell 4 _ rfl
          have ac5 := (S.out.box (X1, [.slice (some ⟨mB1, mO1, none⟩) m.regs.length ak1, .int .i64 m.pc, .slice (some ⟨mB2, mO2, none⟩) m.mem.length ak2, .int .i64 m.save, .bool m.lets, .bool m.waits, .int .i64 m.halt, .slice aq3 m.ins.length ak3, .slice aq4 m.outs.length ak4, .int .i64 m.count], m) (List.mem_cons_of_mem _ List.mem_cons_self)).1.r.cell 5 _ rfl
          have ac6 := (S.out.box (X1, [.slice (some ⟨mB1, mO1, none⟩) m.regs.length ak1, .int .i64 m.pc, .slice (some ⟨mB2, mO2, none⟩) m.mem.length ak2, .int .i64 m.save, .bool m.lets, .bool m.waits, .int .i64 m.halt, .slice aq3 m.ins.length ak3, .slice aq4 m.outs.length ak4, .int .i64 m.count], m) (List.mem_cons_of_mem _ List.mem_cons_self)).1.r.cell 6 _ rfl
          have ac7 := (S.out.box (X1, [.slice (some ⟨mB1, mO1, none⟩) m.regs.length ak1, .int .i64 m.pc, .slice (some ⟨mB2, mO2, none⟩) m.mem.length ak2, .int .i64 m.save, .bool m.lets, .bool m.waits, .int .i64 m.halt, .slice aq3 m.ins.length ak3, .slice aq4 m.outs.length ak4, .int .i64 m.count], m) (List.mem_cons_of_mem _ List.mem_cons_self)).1.r.cell 7 _ rfl
          have ac8 := (S.out.box (X1, [.slice (some ⟨mB1, mO1, none⟩) m.regs.length ak1, .int .i64 m.pc, .slice (some ⟨mB2, mO2, none⟩) m.mem.length ak2, .int .i64 m.save, .bool m.lets, .bool m.waits, .int .i64 m.halt, .slice aq3 m.ins.length ak3, .slice aq4 m.outs.length ak4, .int .i64 m.count], m) (List.mem_cons_of_mem _ List.mem_cons_self)).1.r.cell 8 _ rfl
          have ac9 := (S.out.box (X1, [.slice (some ⟨mB1, mO1, none⟩) m.regs.length ak1, .int .i64 m.pc, .slice (some ⟨mB2, mO2, none⟩) m.mem.length ak2, .int .i64 m.save, .bool m.lets, .bool m.waits, .int .i64 m.halt, .slice aq3 m.ins.length ak3, .slice aq4 m.outs.length ak4, .int .i64 m.count], m) (List.mem_cons_of_mem _ List.mem_cons_self)).1.r.cell 9 _ rfl
          have bc0 := (S.out.box (X2, [.slice bq1 x.regs.length bk1, .int .i64 x.pc, .slice bq2 x.mem.length bk2, .int .i64 x.save, .bool x.lets, .bool x.waits, .int .i64 x.halt, .slice bq3 x.ins.length bk3, .slice bq4 x.outs.length bk4, .int .i64 x.count], x) List.mem_cons_self).1.r.cell 0 _ rfl
          have bc1 := (S.out.box (X2, [.slice bq1 x.regs.length bk1, .int .i64 x.pc, .slice bq2 x.mem.length bk2, .int .i64 x.save, .bool x.lets, .bool x.waits, .int .i64 x.halt, .slice bq3 x.ins.length bk3, .slice bq4 x.outs.length bk4, .int .i64 x.count], x) List.mem_cons_self).1.r.cell 1 _ rfl
          have bc2 := (S.out.box (X2, [.slice bq1 x.regs.length bk1, .int .i64 x.pc, .slice bq2 x.mem.length bk2, .int .i64 x.save, .bool x.lets, .bool x.waits, .int .i64 x.halt, .slice bq3 x.ins.length bk3, .slice bq4 x.outs.length bk4, .int .i64 x.count], x) List.mem_cons_self).1.r.cell 2 _ rfl
          have bc3 := (S.out.box (X2, [.slice bq1 x.regs.length bk1, .int .i64 x.pc, .slice bq2 x.mem.length bk2, .int .i64 x.save, .bool x.lets, .bool x.waits, .int .i64 x.halt, .slice bq3 x.ins.length bk3, .slice bq4 x.outs.length bk4, .int .i64 x.count], x) List.mem_cons_self).1.r.cell 3 _ rfl
          have bc4 := (S.out.box (X2, [.slice bq1 x.regs.length bk1, .int .i64 x.pc, .slice bq2 x.mem.length bk2, .int .i64 x.save, .bool x.lets, .bool x.waits, .int .i64 x.halt, .slice bq3 x.ins.length bk3, .slice bq4 x.outs.length bk4, .int .i64 x.count], x) List.mem_cons_self).1.r.cell 4 _ rfl
          have bc5 := (S.out.box (X2, [.slice bq1 x.regs.length bk1, .int .i64 x.pc, .slice bq2 x.mem.length bk2, .int .i64 x.save, .bool x.lets, .bool x.waits, .int .i64 x.halt, .slice bq3 x.ins.length bk3, .slice bq4 x.outs.length bk4, .int .i64 x.count], x) List.mem_cons_self).1.r.cell 5 _ rfl
          have bc6 := (S.out.box (X2, [.slice bq1 x.regs.length bk1, .int .i64 x.pc, .slice bq2 x.mem.length bk2, .int .i64 x.save, .bool x.lets, .bool x.waits, .int .i64 x.halt, .slice bq3 x.ins.length bk3, .slice bq4 x.outs.length bk4, .int .i64 x.count], x) List.mem_cons_self).1.r.cell 6 _ rfl
          have bc7 := (S.out.box (X2, [.slice bq1 x.regs.length bk1, .int .i64 x.pc, .slice bq2 x.mem.length bk2, .int .i64 x.save, .bool x.lets, .bool x.waits, .int .i64 x.halt, .slice bq3 x.ins.length bk3, .slice bq4 x.outs.length bk4, .int .i64 x.count], x) List.mem_cons_self).1.r.cell 7 _ rfl
          have bc8 := (S.out.box (X2, [.slice bq1 x.regs.length bk1, .int .i64 x.pc, .slice bq2 x.mem.length bk2, .int .i64 x.save, .bool x.lets, .bool x.waits, .int .i64 x.halt, .slice bq3 x.ins.length bk3, .slice bq4 x.outs.length bk4, .int .i64 x.count], x) List.mem_cons_self).1.r.cell 8 _ rfl
          have bc9 := (S.out.box (X2, [.slice bq1 x.regs.length bk1, .int .i64 x.pc, .slice bq2 x.mem.length bk2, .int .i64 x.save, .bool x.lets, .bool x.waits, .int .i64 x.halt, .slice bq3 x.ins.length bk3, .slice bq4 x.outs.length bk4, .int .i64 x.count], x) List.mem_cons_self).1.r.cell 9 _ rfl
          have FIN := hide S.out.bw
          clear S
          go_wp2_with fail
          refine (InsI.insEnds op _).mono ?_
          rintro e uu ⟨rfl, rfl⟩
          rw [EN.out]
          go_wp2
          go_ret
          exact ⟨rfl, FIN.out⟩

set_option maxRecDepth 100000 in
theorem lifted (os : Os) (started : os.Started) (H : Type) (enc : TypeId × Value → H) :
    ReturnsInHanded {} Tryz.checked os 9 .any (Rows.fnMchNextSpec.pre6 enc Tryz.prog Tryz.f9 Rows.fnMchNextRow.domain false) (Rows.fnMchNextSpec.post enc Tryz.prog Tryz.f9 false true false false) := by
  refine returnsInHanded_of_change (C := Tryz.checked) own started (by kernel_rfl) Tryz.func9
    (ChangeSpec.witness6 (enc := enc) (C := Tryz.checked) false ⟨#[], #[.slice none 0 0], []⟩ 8 (by kernel_rfl) (by kernel_rfl) (by kernel_rfl) (by kernel_rfl)) ?_
  intro W base args ds gs before hval0 hW hcnd _
  have hval : ∀ (j : Nat) t v, Tryz.f9.params[j]? = some t → args[j]? = some v → Value.okWide Tryz.prog W .any base t v := hval0
  have hW' := hW
  obtain ⟨p, q, hA0, hV, rfl, hfz, hnd⟩ := hW
  have hA : DataW.TrodAll enc Tryz.prog W 0 (fun _ => true) true Tryz.f9.params.toList args.toList ds p := hA0
  rw [Tryz.params9] at hA hval
  obtain ⟨v0, vs0, d0, ds0, p0, q0, hargs, rfl, rfl, h0, r0⟩ := trodAll_cons hA
  obtain ⟨rfl, rfl, rfl⟩ := trodAll_nil r0
  obtain rfl : args = #[v0] := by cases args; simp_all
  obtain ⟨rfl, rfl⟩ := trodVars_none hV
  obtain ⟨a0, len0, cap0, rfl⟩ := okWide_slice Tryz.underlying22 (hval 0 22 v0 rfl rfl)
  have k0 := h0
  have lt0 : ∀ x ∈ p0, x.block < W.heap.size := by obtain ⟨m, hm⟩ := k0; exact DataW.trod_lt m _ _ _ hm
  obtain ⟨z0, w0⟩ : ∃ zs, IsRow .u8 W a0 len0 cap0 zs := by
    obtain ⟨fuel, hf⟩ := h0
    rcases open_ints Tryz.underlying22 Tryz.underlying5 (by kernel_rfl) hf with ⟨hcs, _⟩ | ⟨x, l, c, zs, hcs, _, hl, hm, hz, _, hcell, hwz⟩
    · simp [Value.cells] at hcs
      obtain ⟨rfl, rfl, rfl⟩ := hcs
      exact ⟨[], .inl ⟨rfl, rfl, rfl, rfl⟩⟩
    · simp [Value.cells] at hcs
      obtain ⟨rfl, rfl, rfl⟩ := hcs
      exact ⟨zs, .inr ⟨_, rfl, hl, hm, by simpa using hz, hcell, hwz⟩⟩
  clear hA0 hval0
  refine (walk a0 len0 cap0 z0 W w0).mono fun e W' ⟨he, bel⟩ => ?_
  subst he
  exact ⟨_, rfl, _, _, _, [], _, [], hW', trodAll_mk1 (shut_bool Tryz.underlying4 _), (trodAll_cons_mk (Below.trod laidOut (by kernel_rfl) (of_decide_eq_true (by kernel_rfl)) k0 bel lt0) trodAll_mk0), rfl, bel.frame _, fun h => by cases h⟩

theorem over : Rows.fnMchNextRow.holds Tryz.pinned (OpenSpec.ofChange Rows.fnMchNextSpec) :=
  OpenClaim.holds_of_wide 9 Tryz.f9 rfl rfl rfl rfl rfl rfl rfl ⟨rfl, rfl, rfl, rfl, rfl⟩ rfl rfl rfl rfl rfl (by kernel_rfl) Tryz.func9 (by kernel_rfl)
    (of_decide_eq_true (by kernel_rfl)) (by unfold Func.isWrapper; first | (rw [if_pos (by decide +kernel)]; kernel_rfl) | (rw [if_neg (by decide +kernel)]; exact ⟨rfl, rfl⟩))
    (fun os started H enc _ => lifted os started H enc)

theorem proved : Rows.FnMchNextSaid := over
#print axioms proved
end Go.Proofs.YtnhpmbhphbphaaaGreat.fnMchNext
