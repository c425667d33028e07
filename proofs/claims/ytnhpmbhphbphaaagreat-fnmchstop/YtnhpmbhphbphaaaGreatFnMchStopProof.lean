/-
  At every code of bytes the law FnMchStop returns true (P20: where a machine stands still a run of anything is it; what stops at a place that there is not is there); no condition.
  The frame (the steps lifted, over, proved) is the guide's shell, written by its program; the walk and the lemmas ahead of it are mine.
-/
import Derived.Test.YtnhpmbhphbphaaaGreatRows
import Derived.WalkKit
import Derived.ProofKit
import Derived.OpenShut
import Derived.Test.YtnhpmbhphbphaaaGreatSit
import Derived.Test.YtnhpmbhphbphaaaGreatMpC
import Derived.ShutString
import Derived.ChangeOld
import Derived.Below
namespace Go.Proofs.YtnhpmbhphbphaaaGreat.fnMchStop
open Go.ChangeShapes Go.WideShapes Go.ChangeAt Go.RowKit
open Go.ChangeMaps (open_string shut_string)
set_option linter.unusedVariables false

theorem own : ownKnob Tryz.prog.godebug = none := by kernel_rfl
theorem laidOut : laidOutB Tryz.prog = true := by kernel_rfl

def IsRow (k : IntKind) (w : World) (a : Option Addr) (len cap : Nat) (zs : List Int) : Prop :=
  (a = none ∧ len = 0 ∧ cap = 0 ∧ zs = []) ∨
  ∃ x, a = some x ∧ len ≤ cap ∧ cap ≤ maxLen ∧ zs.length = cap ∧ (∀ i, i < zs.length → w.cell? (x.add i) = some (.int k (zs.getD i 0))) ∧ ∀ n ∈ zs, (Lit.int k n).wf = true

open IntS Mch
set_option linter.unusedVariables false
set_option linter.unusedSimpArgs false

set_option maxRecDepth 8000 in
set_option maxHeartbeats 16000000 in
theorem walk (a0 : Option Addr) (len0 cap0 : Nat) (z0 : List Int) (w : World) (w0 : IsRow .u8 w a0 len0 cap0 z0) :
    Calls Tryz.prog 7 #[.slice a0 len0 cap0] w fun e w' => e = .returned (.bool true) ∧ Below w.heap.size w w' := by
  obtain ⟨hlc, hm, hc⟩ := Draw.code_row w a0 len0 cap0 z0 w0
  by_cases hl : 1048576 < len0
  · unfold maxLen at hm
    go_enter Tryz.func7, Tryz.ntmps7
    go_wp2
    go_ret
    exact ⟨rfl, Below.refl _ _⟩
  clear w0
  go_enter Tryz.func7, Tryz.ntmps7
  go_wp2_with fail
  refine (Draw.drawRun a0 len0 cap0 _ hlc hm hc).mono ?_
  rintro e va ⟨c, m, qi, li, ci, xs, n, Bi, rfl, MC, MF, RI, hxl, hx4, hn, hb⟩
  have FM := hide MF
  have S0 : Hid (Sit w [] [(Bi, (.slice qi li ci), xs)] va) := ⟨hb, fun b h => absurd h (by simp), fun r hr => by rcases List.mem_cons.1 hr with rfl | hr; exact RI; exact absurd hr (by simp)⟩
  have M0 := MC.write.read
  clear hc hm hlc hb MC MF RI
  have S := S0
  clear S0
  have HN := hide hn
  clear hn hx4 hxl
  obtain ⟨aq1, aq2, aq3, aq4, ak1, ak2, ak3, ak4, rfl⟩ := rforms M0
  have S2 := hide (Sit.add S.out M0)
  simp only [mv] at M0 S2 ⊢
  clear S M0
  have S := S2
  clear S2
  go_wp2_with fail
  generalize hZ : va.heap.size = X1 at S ⊢
  clear hZ
  generalize va.alloc (.cells #[.slice aq1 m.regs.length ak1, .int .i64 m.pc, .slice aq2 m.mem.length ak2, .int .i64 m.save, .bool m.lets, .bool m.waits, .int .i64 m.halt, .slice aq3 m.ins.length ak3, .slice aq4 m.outs.length ak4, .int .i64 m.count] 25) = wv1 at S ⊢
  have ac0 := (S.out.box (X1, [.slice aq1 m.regs.length ak1, .int .i64 m.pc, .slice aq2 m.mem.length ak2, .int .i64 m.save, .bool m.lets, .bool m.waits, .int .i64 m.halt, .slice aq3 m.ins.length ak3, .slice aq4 m.outs.length ak4, .int .i64 m.count], m) List.mem_cons_self).1.r.cell 0 _ rfl
  have ac1 := (S.out.box (X1, [.slice aq1 m.regs.length ak1, .int .i64 m.pc, .slice aq2 m.mem.length ak2, .int .i64 m.save, .bool m.lets, .bool m.waits, .int .i64 m.halt, .slice aq3 m.ins.length ak3, .slice aq4 m.outs.length ak4, .int .i64 m.count], m) List.mem_cons_self).1.r.cell 1 _ rfl
  have ac2 := (S.out.box (X1, [.slice aq1 m.regs.length ak1, .int .i64 m.pc, .slice aq2 m.mem.length ak2, .int .i64 m.save, .bool m.lets, .bool m.waits, .int .i64 m.halt, .slice aq3 m.ins.length ak3, .slice aq4 m.outs.length ak4, .int .i64 m.count], m) List.mem_cons_self).1.r.cell 2 _ rfl
  have ac3 := (S.out.box (X1, [.slice aq1 m.regs.length ak1, .int .i64 m.pc, .slice aq2 m.mem.length ak2, .int .i64 m.save, .bool m.lets, .bool m.waits, .int .i64 m.halt, .slice aq3 m.ins.length ak3, .slice aq4 m.outs.length ak4, .int .i64 m.count], m) List.mem_cons_self).1.r.cell 3 _ rfl
  have ac4 := (S.out.box (X1, [.slice aq1 m.regs.length ak1, .int .i64 m.pc, .slice aq2 m.mem.length ak2, .int .i64 m.save, .bool m.lets, .bool m.waits, .int .i64 m.halt, .slice aq3 m.ins.length ak3, .slice aq4 m.outs.length ak4, .int .i64 m.count], m) List.mem_cons_self).1.r.cell 4 _ rfl
  have ac5 := (S.out.box (X1, [.slice aq1 m.regs.length ak1, .int .i64 m.pc, .slice aq2 m.mem.length ak2, .int .i64 m.save, .bool m.lets, .bool m.waits, .int .i64 m.halt, .slice aq3 m.ins.length ak3, .slice aq4 m.outs.length ak4, .int .i64 m.count], m) List.mem_cons_self).1.r.cell 5 _ rfl
  have ac6 := (S.out.box (X1, [.slice aq1 m.regs.length ak1, .int .i64 m.pc, .slice aq2 m.mem.length ak2, .int .i64 m.save, .bool m.lets, .bool m.waits, .int .i64 m.halt, .slice aq3 m.ins.length ak3, .slice aq4 m.outs.length ak4, .int .i64 m.count], m) List.mem_cons_self).1.r.cell 6 _ rfl
  have ac7 := (S.out.box (X1, [.slice aq1 m.regs.length ak1, .int .i64 m.pc, .slice aq2 m.mem.length ak2, .int .i64 m.save, .bool m.lets, .bool m.waits, .int .i64 m.halt, .slice aq3 m.ins.length ak3, .slice aq4 m.outs.length ak4, .int .i64 m.count], m) List.mem_cons_self).1.r.cell 7 _ rfl
  have ac8 := (S.out.box (X1, [.slice aq1 m.regs.length ak1, .int .i64 m.pc, .slice aq2 m.mem.length ak2, .int .i64 m.save, .bool m.lets, .bool m.waits, .int .i64 m.halt, .slice aq3 m.ins.length ak3, .slice aq4 m.outs.length ak4, .int .i64 m.count], m) List.mem_cons_self).1.r.cell 8 _ rfl
  have ac9 := (S.out.box (X1, [.slice aq1 m.regs.length ak1, .int .i64 m.pc, .slice aq2 m.mem.length ak2, .int .i64 m.save, .bool m.lets, .bool m.waits, .int .i64 m.halt, .slice aq3 m.ins.length ak3, .slice aq4 m.outs.length ak4, .int .i64 m.count], m) List.mem_cons_self).1.r.cell 9 _ rfl
  obtain ⟨x, ex⟩ : ∃ x, runOf m xs n = x := ⟨_, rfl⟩
  have EX := hide ex
  clear ex
  obtain ⟨ok, eo⟩ : ∃ ok, okM m = ok := ⟨_, rfl⟩
  have EO := hide eo
  clear eo
  refine (Mch.mchOk m _ _ (S.out.box (X1, [.slice aq1 m.regs.length ak1, .int .i64 m.pc, .slice aq2 m.mem.length ak2, .int .i64 m.save, .bool m.lets, .bool m.waits, .int .i64 m.halt, .slice aq3 m.ins.length ak3, .slice aq4 m.outs.length ak4, .int .i64 m.count], m) List.mem_cons_self).2).mono ?_
  rintro e wv2 ⟨rfl, hb⟩
  rw [EO.out]
  have S2 := hide (S.out.below hb)
  clear S
  have S := S2
  clear S2
  clear hb
  clear ac0 ac1 ac2 ac3 ac4 ac5 ac6 ac7 ac8 ac9
  cases ok with
  | false =>
    have ac0 := (S.out.box (X1, [.slice aq1 m.regs.length ak1, .int .i64 m.pc, .slice aq2 m.mem.length ak2, .int .i64 m.save, .bool m.lets, .bool m.waits, .int .i64 m.halt, .slice aq3 m.ins.length ak3, .slice aq4 m.outs.length ak4, .int .i64 m.count], m) List.mem_cons_self).1.r.cell 0 _ rfl
    have ac1 := (S.out.box (X1, [.slice aq1 m.regs.length ak1, .int .i64 m.pc, .slice aq2 m.mem.length ak2, .int .i64 m.save, .bool m.lets, .bool m.waits, .int .i64 m.halt, .slice aq3 m.ins.length ak3, .slice aq4 m.outs.length ak4, .int .i64 m.count], m) List.mem_cons_self).1.r.cell 1 _ rfl
    have ac2 := (S.out.box (X1, [.slice aq1 m.regs.length ak1, .int .i64 m.pc, .slice aq2 m.mem.length ak2, .int .i64 m.save, .bool m.lets, .bool m.waits, .int .i64 m.halt, .slice aq3 m.ins.length ak3, .slice aq4 m.outs.length ak4, .int .i64 m.count], m) List.mem_cons_self).1.r.cell 2 _ rfl
    have ac3 := (S.out.box (X1, [.slice aq1 m.regs.length ak1, .int .i64 m.pc, .slice aq2 m.mem.length ak2, .int .i64 m.save, .bool m.lets, .bool m.waits, .int .i64 m.halt, .slice aq3 m.ins.length ak3, .slice aq4 m.outs.length ak4, .int .i64 m.count], m) List.mem_cons_self).1.r.cell 3 _ rfl
    have ac4 := (S.out.box (X1, [.slice aq1 m.regs.length ak1, .int .i64 m.pc, .slice aq2 m.mem.length ak2, .int .i64 m.save, .bool m.lets, .bool m.waits, .int .i64 m.halt, .slice aq3 m.ins.length ak3, .slice aq4 m.outs.length ak4, .int .i64 m.count], m) List.mem_cons_self).1.r.cell 4 _ rfl
    have ac5 := (S.out.box (X1, [.slice aq1 m.regs.length ak1, .int .i64 m.pc, .slice aq2 m.mem.length ak2, .int .i64 m.save, .bool m.lets, .bool m.waits, .int .i64 m.halt, .slice aq3 m.ins.length ak3, .slice aq4 m.outs.length ak4, .int .i64 m.count], m) List.mem_cons_self).1.r.cell 5 _ rfl
    have ac6 := (S.out.box (X1, [.slice aq1 m.regs.length ak1, .int .i64 m.pc, .slice aq2 m.mem.length ak2, .int .i64 m.save, .bool m.lets, .bool m.waits, .int .i64 m.halt, .slice aq3 m.ins.length ak3, .slice aq4 m.outs.length ak4, .int .i64 m.count], m) List.mem_cons_self).1.r.cell 6 _ rfl
    have ac7 := (S.out.box (X1, [.slice aq1 m.regs.length ak1, .int .i64 m.pc, .slice aq2 m.mem.length ak2, .int .i64 m.save, .bool m.lets, .bool m.waits, .int .i64 m.halt, .slice aq3 m.ins.length ak3, .slice aq4 m.outs.length ak4, .int .i64 m.count], m) List.mem_cons_self).1.r.cell 7 _ rfl
    have ac8 := (S.out.box (X1, [.slice aq1 m.regs.length ak1, .int .i64 m.pc, .slice aq2 m.mem.length ak2, .int .i64 m.save, .bool m.lets, .bool m.waits, .int .i64 m.halt, .slice aq3 m.ins.length ak3, .slice aq4 m.outs.length ak4, .int .i64 m.count], m) List.mem_cons_self).1.r.cell 8 _ rfl
    have ac9 := (S.out.box (X1, [.slice aq1 m.regs.length ak1, .int .i64 m.pc, .slice aq2 m.mem.length ak2, .int .i64 m.save, .bool m.lets, .bool m.waits, .int .i64 m.halt, .slice aq3 m.ins.length ak3, .slice aq4 m.outs.length ak4, .int .i64 m.count], m) List.mem_cons_self).1.r.cell 9 _ rfl
    go_wp2_with fail
    refine (La.laOk _).mono ?_
    rintro e u ⟨rfl, rfl⟩
    have FIN := hide S.out.bw
    clear S
    go_wp2
    go_ret
    exact ⟨rfl, FIN.out⟩
  | true =>
    by_cases h4 : 400 < n
    · skip
      have ac0 := (S.out.box (X1, [.slice aq1 m.regs.length ak1, .int .i64 m.pc, .slice aq2 m.mem.length ak2, .int .i64 m.save, .bool m.lets, .bool m.waits, .int .i64 m.halt, .slice aq3 m.ins.length ak3, .slice aq4 m.outs.length ak4, .int .i64 m.count], m) List.mem_cons_self).1.r.cell 0 _ rfl
      have ac1 := (S.out.box (X1, [.slice aq1 m.regs.length ak1, .int .i64 m.pc, .slice aq2 m.mem.length ak2, .int .i64 m.save, .bool m.lets, .bool m.waits, .int .i64 m.halt, .slice aq3 m.ins.length ak3, .slice aq4 m.outs.length ak4, .int .i64 m.count], m) List.mem_cons_self).1.r.cell 1 _ rfl
      have ac2 := (S.out.box (X1, [.slice aq1 m.regs.length ak1, .int .i64 m.pc, .slice aq2 m.mem.length ak2, .int .i64 m.save, .bool m.lets, .bool m.waits, .int .i64 m.halt, .slice aq3 m.ins.length ak3, .slice aq4 m.outs.length ak4, .int .i64 m.count], m) List.mem_cons_self).1.r.cell 2 _ rfl
      have ac3 := (S.out.box (X1, [.slice aq1 m.regs.length ak1, .int .i64 m.pc, .slice aq2 m.mem.length ak2, .int .i64 m.save, .bool m.lets, .bool m.waits, .int .i64 m.halt, .slice aq3 m.ins.length ak3, .slice aq4 m.outs.length ak4, .int .i64 m.count], m) List.mem_cons_self).1.r.cell 3 _ rfl
      have ac4 := (S.out.box (X1, [.slice aq1 m.regs.length ak1, .int .i64 m.pc, .slice aq2 m.mem.length ak2, .int .i64 m.save, .bool m.lets, .bool m.waits, .int .i64 m.halt, .slice aq3 m.ins.length ak3, .slice aq4 m.outs.length ak4, .int .i64 m.count], m) List.mem_cons_self).1.r.cell 4 _ rfl
      have ac5 := (S.out.box (X1, [.slice aq1 m.regs.length ak1, .int .i64 m.pc, .slice aq2 m.mem.length ak2, .int .i64 m.save, .bool m.lets, .bool m.waits, .int .i64 m.halt, .slice aq3 m.ins.length ak3, .slice aq4 m.outs.length ak4, .int .i64 m.count], m) List.mem_cons_self).1.r.cell 5 _ rfl
      have ac6 := (S.out.box (X1, [.slice aq1 m.regs.length ak1, .int .i64 m.pc, .slice aq2 m.mem.length ak2, .int .i64 m.save, .bool m.lets, .bool m.waits, .int .i64 m.halt, .slice aq3 m.ins.length ak3, .slice aq4 m.outs.length ak4, .int .i64 m.count], m) List.mem_cons_self).1.r.cell 6 _ rfl
      have ac7 := (S.out.box (X1, [.slice aq1 m.regs.length ak1, .int .i64 m.pc, .slice aq2 m.mem.length ak2, .int .i64 m.save, .bool m.lets, .bool m.waits, .int .i64 m.halt, .slice aq3 m.ins.length ak3, .slice aq4 m.outs.length ak4, .int .i64 m.count], m) List.mem_cons_self).1.r.cell 7 _ rfl
      have ac8 := (S.out.box (X1, [.slice aq1 m.regs.length ak1, .int .i64 m.pc, .slice aq2 m.mem.length ak2, .int .i64 m.save, .bool m.lets, .bool m.waits, .int .i64 m.halt, .slice aq3 m.ins.length ak3, .slice aq4 m.outs.length ak4, .int .i64 m.count], m) List.mem_cons_self).1.r.cell 8 _ rfl
      have ac9 := (S.out.box (X1, [.slice aq1 m.regs.length ak1, .int .i64 m.pc, .slice aq2 m.mem.length ak2, .int .i64 m.save, .bool m.lets, .bool m.waits, .int .i64 m.halt, .slice aq3 m.ins.length ak3, .slice aq4 m.outs.length ak4, .int .i64 m.count], m) List.mem_cons_self).1.r.cell 9 _ rfl
      go_wp2_with fail
      refine (La.laOk _).mono ?_
      rintro e u ⟨rfl, rfl⟩
      have FIN := hide S.out.bw
      clear S
      go_wp2
      go_ret
      exact ⟨rfl, FIN.out⟩
    obtain ⟨okx, hpl, hnx⟩ : okM x = true ∧ (m.halt = 0 → x.halt = 4 → 64 ≤ x.pc) ∧ Near x := by
      rw [← EX.out, run_yes EO.out (by omega)]
      exact ⟨run_ok xs _ EO.out, run_place xs _ m EO.out, near_run EO.out FM.out xs (by have := HN.out; omega)⟩
    have NX := hide hnx
    have EAG : Hid (x.halt ≠ 0 → runOf x xs 7 = x) := fun h => run_again okx h xs (by omega)
    have PB := hide (okM_of okx).p
    clear hnx okx
    have ac0 := (S.out.box (X1, [.slice aq1 m.regs.length ak1, .int .i64 m.pc, .slice aq2 m.mem.length ak2, .int .i64 m.save, .bool m.lets, .bool m.waits, .int .i64 m.halt, .slice aq3 m.ins.length ak3, .slice aq4 m.outs.length ak4, .int .i64 m.count], m) List.mem_cons_self).1.r.cell 0 _ rfl
    have ac1 := (S.out.box (X1, [.slice aq1 m.regs.length ak1, .int .i64 m.pc, .slice aq2 m.mem.length ak2, .int .i64 m.save, .bool m.lets, .bool m.waits, .int .i64 m.halt, .slice aq3 m.ins.length ak3, .slice aq4 m.outs.length ak4, .int .i64 m.count], m) List.mem_cons_self).1.r.cell 1 _ rfl
    have ac2 := (S.out.box (X1, [.slice aq1 m.regs.length ak1, .int .i64 m.pc, .slice aq2 m.mem.length ak2, .int .i64 m.save, .bool m.lets, .bool m.waits, .int .i64 m.halt, .slice aq3 m.ins.length ak3, .slice aq4 m.outs.length ak4, .int .i64 m.count], m) List.mem_cons_self).1.r.cell 2 _ rfl
    have ac3 := (S.out.box (X1, [.slice aq1 m.regs.length ak1, .int .i64 m.pc, .slice aq2 m.mem.length ak2, .int .i64 m.save, .bool m.lets, .bool m.waits, .int .i64 m.halt, .slice aq3 m.ins.length ak3, .slice aq4 m.outs.length ak4, .int .i64 m.count], m) List.mem_cons_self).1.r.cell 3 _ rfl
    have ac4 := (S.out.box (X1, [.slice aq1 m.regs.length ak1, .int .i64 m.pc, .slice aq2 m.mem.length ak2, .int .i64 m.save, .bool m.lets, .bool m.waits, .int .i64 m.halt, .slice aq3 m.ins.length ak3, .slice aq4 m.outs.length ak4, .int .i64 m.count], m) List.mem_cons_self).1.r.cell 4 _ rfl
    have ac5 := (S.out.box (X1, [.slice aq1 m.regs.length ak1, .int .i64 m.pc, .slice aq2 m.mem.length ak2, .int .i64 m.save, .bool m.lets, .bool m.waits, .int .i64 m.halt, .slice aq3 m.ins.length ak3, .slice aq4 m.outs.length ak4, .int .i64 m.count], m) List.mem_cons_self).1.r.cell 5 _ rfl
    have ac6 := (S.out.box (X1, [.slice aq1 m.regs.length ak1, .int .i64 m.pc, .slice aq2 m.mem.length ak2, .int .i64 m.save, .bool m.lets, .bool m.waits, .int .i64 m.halt, .slice aq3 m.ins.length ak3, .slice aq4 m.outs.length ak4, .int .i64 m.count], m) List.mem_cons_self).1.r.cell 6 _ rfl
    have ac7 := (S.out.box (X1, [.slice aq1 m.regs.length ak1, .int .i64 m.pc, .slice aq2 m.mem.length ak2, .int .i64 m.save, .bool m.lets, .bool m.waits, .int .i64 m.halt, .slice aq3 m.ins.length ak3, .slice aq4 m.outs.length ak4, .int .i64 m.count], m) List.mem_cons_self).1.r.cell 7 _ rfl
    have ac8 := (S.out.box (X1, [.slice aq1 m.regs.length ak1, .int .i64 m.pc, .slice aq2 m.mem.length ak2, .int .i64 m.save, .bool m.lets, .bool m.waits, .int .i64 m.halt, .slice aq3 m.ins.length ak3, .slice aq4 m.outs.length ak4, .int .i64 m.count], m) List.mem_cons_self).1.r.cell 8 _ rfl
    have ac9 := (S.out.box (X1, [.slice aq1 m.regs.length ak1, .int .i64 m.pc, .slice aq2 m.mem.length ak2, .int .i64 m.save, .bool m.lets, .bool m.waits, .int .i64 m.halt, .slice aq3 m.ins.length ak3, .slice aq4 m.outs.length ak4, .int .i64 m.count], m) List.mem_cons_self).1.r.cell 9 _ rfl
    go_wp2_with fail
    refine (MchI.mchRun m xs n _ _ _ _ (S.out.box (X1, [.slice aq1 m.regs.length ak1, .int .i64 m.pc, .slice aq2 m.mem.length ak2, .int .i64 m.save, .bool m.lets, .bool m.waits, .int .i64 m.halt, .slice aq3 m.ins.length ak3, .slice aq4 m.outs.length ak4, .int .i64 m.count], m) List.mem_cons_self).2 (S.out.row (Bi, (.slice qi li ci), xs) List.mem_cons_self) FM.out.near).mono ?_
    rintro e wv3 ⟨c2, rfl, M1, hb⟩
    have M2 := M1.read
    rw [EX.out] at M2
    clear M1
    have S2 := hide (S.out.below hb)
    clear S
    have S := S2
    clear S2
    clear hb
    clear ac0 ac1 ac2 ac3 ac4 ac5 ac6 ac7 ac8 ac9
    by_cases h0 : x.halt = 0
    · have f0 : (x.halt == 0) = true := by rw [h0]; rfl
      clear h0 hpl
      obtain ⟨bq1, bq2, bq3, bq4, bk1, bk2, bk3, bk4, rfl⟩ := rforms M2
      have S2 := hide (Sit.add S.out M2)
      simp only [mv] at M2 S2 ⊢
      clear S M2
      have S := S2
      clear S2
      have ac0 := (S.out.box (X1, [.slice aq1 m.regs.length ak1, .int .i64 m.pc, .slice aq2 m.mem.length ak2, .int .i64 m.save, .bool m.lets, .bool m.waits, .int .i64 m.halt, .slice aq3 m.ins.length ak3, .slice aq4 m.outs.length ak4, .int .i64 m.count], m) (List.mem_cons_of_mem _ List.mem_cons_self)).1.r.cell 0 _ rfl
      have ac1 := (S.out.box (X1, [.slice aq1 m.regs.length ak1, .int .i64 m.pc, .slice aq2 m.mem.length ak2, .int .i64 m.save, .bool m.lets, .bool m.waits, .int .i64 m.halt, .slice aq3 m.ins.length ak3, .slice aq4 m.outs.length ak4, .int .i64 m.count], m) (List.mem_cons_of_mem _ List.mem_cons_self)).1.r.cell 1 _ rfl
      have ac2 := (S.out.box (X1, [.slice aq1 m.regs.length ak1, .int .i64 m.pc, .slice aq2 m.mem.length ak2, .int .i64 m.save, .bool m.lets, .bool m.waits, .int .i64 m.halt, .slice aq3 m.ins.length ak3, .slice aq4 m.outs.length ak4, .int .i64 m.count], m) (List.mem_cons_of_mem _ List.mem_cons_self)).1.r.cell 2 _ rfl
      have ac3 := (S.out.box (X1, [.slice aq1 m.regs.length ak1, .int .i64 m.pc, .slice aq2 m.mem.length ak2, .int .i64 m.save, .bool m.lets, .bool m.waits, .int .i64 m.halt, .slice aq3 m.ins.length ak3, .slice aq4 m.outs.length ak4, .int .i64 m.count], m) (List.mem_cons_of_mem _ List.mem_cons_self)).1.r.cell 3 _ rfl
      have ac4 := (S.out.box (X1, [.slice aq1 m.regs.length ak1, .int .i64 m.pc, .slice aq2 m.mem.length ak2, .int .i64 m.save, .bool m.lets, .bool m.waits, .int .i64 m.halt, .slice aq3 m.ins.length ak3, .slice aq4 m.outs.length ak4, .int .i64 m.count], m) (List.mem_cons_of_mem _ List.mem_cons_self)).1.r.cell 4 _ rfl
      have ac5 := (S.out.box (X1, [.slice aq1 m.regs.length ak1, .int .i64 m.pc, .slice aq2 m.mem.length ak2, .int .i64 m.save, .bool m.lets, .bool m.waits, .int .i64 m.halt, .slice aq3 m.ins.length ak3, .slice aq4 m.outs.length ak4, .int .i64 m.count], m) (List.mem_cons_of_mem _ List.mem_cons_self)).1.r.cell 5 _ rfl
      have ac6 := (S.out.box (X1, [.slice aq1 m.regs.length ak1, .int .i64 m.pc, .slice aq2 m.mem.length ak2, .int .i64 m.save, .bool m.lets, .bool m.waits, .int .i64 m.halt, .slice aq3 m.ins.length ak3, .slice aq4 m.outs.length ak4, .int .i64 m.count], m) (List.mem_cons_of_mem _ List.mem_cons_self)).1.r.cell 6 _ rfl
      have ac7 := (S.out.box (X1, [.slice aq1 m.regs.length ak1, .int .i64 m.pc, .slice aq2 m.mem.length ak2, .int .i64 m.save, .bool m.lets, .bool m.waits, .int .i64 m.halt, .slice aq3 m.ins.length ak3, .slice aq4 m.outs.length ak4, .int .i64 m.count], m) (List.mem_cons_of_mem _ List.mem_cons_self)).1.r.cell 7 _ rfl
      have ac8 := (S.out.box (X1, [.slice aq1 m.regs.length ak1, .int .i64 m.pc, .slice aq2 m.mem.length ak2, .int .i64 m.save, .bool m.lets, .bool m.waits, .int .i64 m.halt, .slice aq3 m.ins.length ak3, .slice aq4 m.outs.length ak4, .int .i64 m.count], m) (List.mem_cons_of_mem _ List.mem_cons_self)).1.r.cell 8 _ rfl
      have ac9 := (S.out.box (X1, [.slice aq1 m.regs.length ak1, .int .i64 m.pc, .slice aq2 m.mem.length ak2, .int .i64 m.save, .bool m.lets, .bool m.waits, .int .i64 m.halt, .slice aq3 m.ins.length ak3, .slice aq4 m.outs.length ak4, .int .i64 m.count], m) (List.mem_cons_of_mem _ List.mem_cons_self)).1.r.cell 9 _ rfl
      go_wp2_with fail
      clear ac0 ac1 ac2 ac3 ac4 ac5 ac6 ac7 ac8 ac9
      generalize hZ : wv3.heap.size = X2 at S ⊢
      clear hZ
      generalize wv3.alloc (.cells #[.slice bq1 x.regs.length bk1, .int .i64 x.pc, .slice bq2 x.mem.length bk2, .int .i64 x.save, .bool x.lets, .bool x.waits, .int .i64 x.halt, .slice bq3 x.ins.length bk3, .slice bq4 x.outs.length bk4, .int .i64 x.count] 25) = wv4 at S ⊢
      refine (La.laOk _).mono ?_
      rintro e u ⟨rfl, rfl⟩
      have FIN := hide S.out.bw
      clear S
      go_wp2
      go_ret
      exact ⟨rfl, FIN.out⟩
    have f0 : (x.halt == 0) = false := beq_eq_false_iff_ne.2 h0
    have EA := hide (EAG.out h0)
    have cs : ((x.halt == 4) = false) ∨ ((x.halt == 4) = true ∧ (m.halt == 0) = false) ∨ ((x.halt == 4) = true ∧ (m.halt == 0) = true ∧ ¬ x.pc < 64) := by
      by_cases z1 : x.halt = 4
      · by_cases z2 : m.halt = 0
        · exact Or.inr (Or.inr ⟨by rw [z1]; rfl, by rw [z2]; rfl, by have := hpl z2 z1; omega⟩)
        · exact Or.inr (Or.inl ⟨by rw [z1]; rfl, beq_eq_false_iff_ne.2 z2⟩)
      · exact Or.inl (beq_eq_false_iff_ne.2 z1)
    clear h0 hpl EAG
    rcases cs with f1 | ⟨f1, f2⟩ | ⟨f1, f2, f3⟩
    · skip
      obtain ⟨bq1, bq2, bq3, bq4, bk1, bk2, bk3, bk4, rfl⟩ := rforms M2
      have S2 := hide (Sit.add S.out M2)
      simp only [mv] at M2 S2 ⊢
      clear S M2
      have S := S2
      clear S2
      have ac0 := (S.out.box (X1, [.slice aq1 m.regs.length ak1, .int .i64 m.pc, .slice aq2 m.mem.length ak2, .int .i64 m.save, .bool m.lets, .bool m.waits, .int .i64 m.halt, .slice aq3 m.ins.length ak3, .slice aq4 m.outs.length ak4, .int .i64 m.count], m) (List.mem_cons_of_mem _ List.mem_cons_self)).1.r.cell 0 _ rfl
      have ac1 := (S.out.box (X1, [.slice aq1 m.regs.length ak1, .int .i64 m.pc, .slice aq2 m.mem.length ak2, .int .i64 m.save, .bool m.lets, .bool m.waits, .int .i64 m.halt, .slice aq3 m.ins.length ak3, .slice aq4 m.outs.length ak4, .int .i64 m.count], m) (List.mem_cons_of_mem _ List.mem_cons_self)).1.r.cell 1 _ rfl
      have ac2 := (S.out.box (X1, [.slice aq1 m.regs.length ak1, .int .i64 m.pc, .slice aq2 m.mem.length ak2, .int .i64 m.save, .bool m.lets, .bool m.waits, .int .i64 m.halt, .slice aq3 m.ins.length ak3, .slice aq4 m.outs.length ak4, .int .i64 m.count], m) (List.mem_cons_of_mem _ List.mem_cons_self)).1.r.cell 2 _ rfl
      have ac3 := (S.out.box (X1, [.slice aq1 m.regs.length ak1, .int .i64 m.pc, .slice aq2 m.mem.length ak2, .int .i64 m.save, .bool m.lets, .bool m.waits, .int .i64 m.halt, .slice aq3 m.ins.length ak3, .slice aq4 m.outs.length ak4, .int .i64 m.count], m) (List.mem_cons_of_mem _ List.mem_cons_self)).1.r.cell 3 _ rfl
      have ac4 := (S.out.box (X1, [.slice aq1 m.regs.length ak1, .int .i64 m.pc, .slice aq2 m.mem.length ak2, .int .i64 m.save, .bool m.lets, .bool m.waits, .int .i64 m.halt, .slice aq3 m.ins.length ak3, .slice aq4 m.outs.length ak4, .int .i64 m.count], m) (List.mem_cons_of_mem _ List.mem_cons_self)).1.r.cell 4 _ rfl
      have ac5 := (S.out.box (X1, [.slice aq1 m.regs.length ak1, .int .i64 m.pc, .slice aq2 m.mem.length ak2, .int .i64 m.save, .bool m.lets, .bool m.waits, .int .i64 m.halt, .slice aq3 m.ins.length ak3, .slice aq4 m.outs.length ak4, .int .i64 m.count], m) (List.mem_cons_of_mem _ List.mem_cons_self)).1.r.cell 5 _ rfl
      have ac6 := (S.out.box (X1, [.slice aq1 m.regs.length ak1, .int .i64 m.pc, .slice aq2 m.mem.length ak2, .int .i64 m.save, .bool m.lets, .bool m.waits, .int .i64 m.halt, .slice aq3 m.ins.length ak3, .slice aq4 m.outs.length ak4, .int .i64 m.count], m) (List.mem_cons_of_mem _ List.mem_cons_self)).1.r.cell 6 _ rfl
      have ac7 := (S.out.box (X1, [.slice aq1 m.regs.length ak1, .int .i64 m.pc, .slice aq2 m.mem.length ak2, .int .i64 m.save, .bool m.lets, .bool m.waits, .int .i64 m.halt, .slice aq3 m.ins.length ak3, .slice aq4 m.outs.length ak4, .int .i64 m.count], m) (List.mem_cons_of_mem _ List.mem_cons_self)).1.r.cell 7 _ rfl
      have ac8 := (S.out.box (X1, [.slice aq1 m.regs.length ak1, .int .i64 m.pc, .slice aq2 m.mem.length ak2, .int .i64 m.save, .bool m.lets, .bool m.waits, .int .i64 m.halt, .slice aq3 m.ins.length ak3, .slice aq4 m.outs.length ak4, .int .i64 m.count], m) (List.mem_cons_of_mem _ List.mem_cons_self)).1.r.cell 8 _ rfl
      have ac9 := (S.out.box (X1, [.slice aq1 m.regs.length ak1, .int .i64 m.pc, .slice aq2 m.mem.length ak2, .int .i64 m.save, .bool m.lets, .bool m.waits, .int .i64 m.halt, .slice aq3 m.ins.length ak3, .slice aq4 m.outs.length ak4, .int .i64 m.count], m) (List.mem_cons_of_mem _ List.mem_cons_self)).1.r.cell 9 _ rfl
      go_wp2_with fail
      clear ac0 ac1 ac2 ac3 ac4 ac5 ac6 ac7 ac8 ac9
      generalize hZ : wv3.heap.size = X2 at S ⊢
      clear hZ
      generalize wv3.alloc (.cells #[.slice bq1 x.regs.length bk1, .int .i64 x.pc, .slice bq2 x.mem.length bk2, .int .i64 x.save, .bool x.lets, .bool x.waits, .int .i64 x.halt, .slice bq3 x.ins.length bk3, .slice bq4 x.outs.length bk4, .int .i64 x.count] 25) = wv4 at S ⊢
      refine (wpIn_wide (n := 0)).1 ?_
      have S2 := hide S.out.drew
      clear S
      have S := S2
      clear S2
      refine PhaseIn.region (S := fun v => Sit w [(X2, [.slice bq1 x.regs.length bk1, .int .i64 x.pc, .slice bq2 x.mem.length bk2, .int .i64 x.save, .bool x.lets, .bool x.waits, .int .i64 x.halt, .slice bq3 x.ins.length bk3, .slice bq4 x.outs.length bk4, .int .i64 x.count], x), (X1, [.slice aq1 m.regs.length ak1, .int .i64 m.pc, .slice aq2 m.mem.length ak2, .int .i64 m.save, .bool m.lets, .bool m.waits, .int .i64 m.halt, .slice aq3 m.ins.length ak3, .slice aq4 m.outs.length ak4, .int .i64 m.count], m)] [(Bi, (.slice qi li ci), xs)] v) 6 (by kernel_rfl) ?_
      generalize wv4.drew = wv5 at *
      have hHeld := S.out
      clear S
      refine PhaseIn.takeD (i := 0) (v := ?_) [0, 2, 4, 5] 45 rfl (by rfl) (by kernel_rfl) (by kernel_rfl) (by kernel_rfl) (by kernel_rfl) (by kernel_rfl) (fun _ _ _ h => h) (Or.inl ⟨by kernel_rfl, ?_⟩) hHeld ?_
      rotate_left
      · intro w' hSw
        (try dsimp only at hSw)
        have z0 := (hSw.box (X2, [.slice bq1 x.regs.length bk1, .int .i64 x.pc, .slice bq2 x.mem.length bk2, .int .i64 x.save, .bool x.lets, .bool x.waits, .int .i64 x.halt, .slice bq3 x.ins.length bk3, .slice bq4 x.outs.length bk4, .int .i64 x.count], x) List.mem_cons_self).1.r.cell 0 _ rfl
        have z1 := (hSw.box (X2, [.slice bq1 x.regs.length bk1, .int .i64 x.pc, .slice bq2 x.mem.length bk2, .int .i64 x.save, .bool x.lets, .bool x.waits, .int .i64 x.halt, .slice bq3 x.ins.length bk3, .slice bq4 x.outs.length bk4, .int .i64 x.count], x) List.mem_cons_self).1.r.cell 1 _ rfl
        have z2 := (hSw.box (X2, [.slice bq1 x.regs.length bk1, .int .i64 x.pc, .slice bq2 x.mem.length bk2, .int .i64 x.save, .bool x.lets, .bool x.waits, .int .i64 x.halt, .slice bq3 x.ins.length bk3, .slice bq4 x.outs.length bk4, .int .i64 x.count], x) List.mem_cons_self).1.r.cell 2 _ rfl
        have z3 := (hSw.box (X2, [.slice bq1 x.regs.length bk1, .int .i64 x.pc, .slice bq2 x.mem.length bk2, .int .i64 x.save, .bool x.lets, .bool x.waits, .int .i64 x.halt, .slice bq3 x.ins.length bk3, .slice bq4 x.outs.length bk4, .int .i64 x.count], x) List.mem_cons_self).1.r.cell 3 _ rfl
        have z4 := (hSw.box (X2, [.slice bq1 x.regs.length bk1, .int .i64 x.pc, .slice bq2 x.mem.length bk2, .int .i64 x.save, .bool x.lets, .bool x.waits, .int .i64 x.halt, .slice bq3 x.ins.length bk3, .slice bq4 x.outs.length bk4, .int .i64 x.count], x) List.mem_cons_self).1.r.cell 4 _ rfl
        have z5 := (hSw.box (X2, [.slice bq1 x.regs.length bk1, .int .i64 x.pc, .slice bq2 x.mem.length bk2, .int .i64 x.save, .bool x.lets, .bool x.waits, .int .i64 x.halt, .slice bq3 x.ins.length bk3, .slice bq4 x.outs.length bk4, .int .i64 x.count], x) List.mem_cons_self).1.r.cell 5 _ rfl
        have z6 := (hSw.box (X2, [.slice bq1 x.regs.length bk1, .int .i64 x.pc, .slice bq2 x.mem.length bk2, .int .i64 x.save, .bool x.lets, .bool x.waits, .int .i64 x.halt, .slice bq3 x.ins.length bk3, .slice bq4 x.outs.length bk4, .int .i64 x.count], x) List.mem_cons_self).1.r.cell 6 _ rfl
        have z7 := (hSw.box (X2, [.slice bq1 x.regs.length bk1, .int .i64 x.pc, .slice bq2 x.mem.length bk2, .int .i64 x.save, .bool x.lets, .bool x.waits, .int .i64 x.halt, .slice bq3 x.ins.length bk3, .slice bq4 x.outs.length bk4, .int .i64 x.count], x) List.mem_cons_self).1.r.cell 7 _ rfl
        have z8 := (hSw.box (X2, [.slice bq1 x.regs.length bk1, .int .i64 x.pc, .slice bq2 x.mem.length bk2, .int .i64 x.save, .bool x.lets, .bool x.waits, .int .i64 x.halt, .slice bq3 x.ins.length bk3, .slice bq4 x.outs.length bk4, .int .i64 x.count], x) List.mem_cons_self).1.r.cell 8 _ rfl
        have z9 := (hSw.box (X2, [.slice bq1 x.regs.length bk1, .int .i64 x.pc, .slice bq2 x.mem.length bk2, .int .i64 x.save, .bool x.lets, .bool x.waits, .int .i64 x.halt, .slice bq3 x.ins.length bk3, .slice bq4 x.outs.length bk4, .int .i64 x.count], x) List.mem_cons_self).1.r.cell 9 _ rfl
        go_simp
        first | done | with_reducible rfl
      try simp only [Act.put, List.setIfInBounds_toArray, List.set]
      refine PhaseIn.takeD (i := 1) (v := ?_) [1, 2, 4, 5] 46 rfl (by rfl) (by kernel_rfl) (by kernel_rfl) (by kernel_rfl) (by kernel_rfl) (by kernel_rfl) (fun _ _ _ h => h) (Or.inl ⟨by kernel_rfl, ?_⟩) hHeld ?_
      rotate_left
      · intro w' hSw
        (try dsimp only at hSw)
        go_simp
        first | done | with_reducible rfl
      try simp only [Act.put, List.setIfInBounds_toArray, List.set]
      refine PhaseIn.takeD (i := 3) (v := ?_) [3, 4, 5] 48 rfl (by rfl) (by kernel_rfl) (by kernel_rfl) (by kernel_rfl) (by kernel_rfl) (by kernel_rfl) (fun _ _ _ h => h) (Or.inl ⟨by kernel_rfl, ?_⟩) hHeld ?_
      rotate_left
      · intro w' hSw
        (try dsimp only at hSw)
        have z0 := (hSw.box (X2, [.slice bq1 x.regs.length bk1, .int .i64 x.pc, .slice bq2 x.mem.length bk2, .int .i64 x.save, .bool x.lets, .bool x.waits, .int .i64 x.halt, .slice bq3 x.ins.length bk3, .slice bq4 x.outs.length bk4, .int .i64 x.count], x) List.mem_cons_self).1.r.cell 0 _ rfl
        have z1 := (hSw.box (X2, [.slice bq1 x.regs.length bk1, .int .i64 x.pc, .slice bq2 x.mem.length bk2, .int .i64 x.save, .bool x.lets, .bool x.waits, .int .i64 x.halt, .slice bq3 x.ins.length bk3, .slice bq4 x.outs.length bk4, .int .i64 x.count], x) List.mem_cons_self).1.r.cell 1 _ rfl
        have z2 := (hSw.box (X2, [.slice bq1 x.regs.length bk1, .int .i64 x.pc, .slice bq2 x.mem.length bk2, .int .i64 x.save, .bool x.lets, .bool x.waits, .int .i64 x.halt, .slice bq3 x.ins.length bk3, .slice bq4 x.outs.length bk4, .int .i64 x.count], x) List.mem_cons_self).1.r.cell 2 _ rfl
        have z3 := (hSw.box (X2, [.slice bq1 x.regs.length bk1, .int .i64 x.pc, .slice bq2 x.mem.length bk2, .int .i64 x.save, .bool x.lets, .bool x.waits, .int .i64 x.halt, .slice bq3 x.ins.length bk3, .slice bq4 x.outs.length bk4, .int .i64 x.count], x) List.mem_cons_self).1.r.cell 3 _ rfl
        have z4 := (hSw.box (X2, [.slice bq1 x.regs.length bk1, .int .i64 x.pc, .slice bq2 x.mem.length bk2, .int .i64 x.save, .bool x.lets, .bool x.waits, .int .i64 x.halt, .slice bq3 x.ins.length bk3, .slice bq4 x.outs.length bk4, .int .i64 x.count], x) List.mem_cons_self).1.r.cell 4 _ rfl
        have z5 := (hSw.box (X2, [.slice bq1 x.regs.length bk1, .int .i64 x.pc, .slice bq2 x.mem.length bk2, .int .i64 x.save, .bool x.lets, .bool x.waits, .int .i64 x.halt, .slice bq3 x.ins.length bk3, .slice bq4 x.outs.length bk4, .int .i64 x.count], x) List.mem_cons_self).1.r.cell 5 _ rfl
        have z6 := (hSw.box (X2, [.slice bq1 x.regs.length bk1, .int .i64 x.pc, .slice bq2 x.mem.length bk2, .int .i64 x.save, .bool x.lets, .bool x.waits, .int .i64 x.halt, .slice bq3 x.ins.length bk3, .slice bq4 x.outs.length bk4, .int .i64 x.count], x) List.mem_cons_self).1.r.cell 6 _ rfl
        have z7 := (hSw.box (X2, [.slice bq1 x.regs.length bk1, .int .i64 x.pc, .slice bq2 x.mem.length bk2, .int .i64 x.save, .bool x.lets, .bool x.waits, .int .i64 x.halt, .slice bq3 x.ins.length bk3, .slice bq4 x.outs.length bk4, .int .i64 x.count], x) List.mem_cons_self).1.r.cell 7 _ rfl
        have z8 := (hSw.box (X2, [.slice bq1 x.regs.length bk1, .int .i64 x.pc, .slice bq2 x.mem.length bk2, .int .i64 x.save, .bool x.lets, .bool x.waits, .int .i64 x.halt, .slice bq3 x.ins.length bk3, .slice bq4 x.outs.length bk4, .int .i64 x.count], x) List.mem_cons_self).1.r.cell 8 _ rfl
        have z9 := (hSw.box (X2, [.slice bq1 x.regs.length bk1, .int .i64 x.pc, .slice bq2 x.mem.length bk2, .int .i64 x.save, .bool x.lets, .bool x.waits, .int .i64 x.halt, .slice bq3 x.ins.length bk3, .slice bq4 x.outs.length bk4, .int .i64 x.count], x) List.mem_cons_self).1.r.cell 9 _ rfl
        go_simp
        first | done | with_reducible rfl
      try simp only [Act.put, List.setIfInBounds_toArray, List.set]
      refine PhaseIn.one (i := 2) (by kernel_rfl) rfl (by kernel_rfl) (fun K hK => ?_)
      unfold Oper.wpIn
      refine ⟨fun _ _ => trivial, ?_⟩
      go_simp
      refine ⟨rfl, (callsIn_wide.2 (MchI.mchRun x xs 7 _ _ _ _ (hHeld.box (X2, [.slice bq1 x.regs.length bk1, .int .i64 x.pc, .slice bq2 x.mem.length bk2, .int .i64 x.save, .bool x.lets, .bool x.waits, .int .i64 x.halt, .slice bq3 x.ins.length bk3, .slice bq4 x.outs.length bk4, .int .i64 x.count], x) List.mem_cons_self).2 (hHeld.row (Bi, (.slice qi li ci), xs) List.mem_cons_self) NX.out)).mono ?_⟩
      rintro e wv6 ⟨c3, rfl, M3, hb⟩
      have MW := hide M3.read
      rw [EA.out] at MW
      clear M3
      replace hHeld := hHeld.below hb
      clear hb
      refine hK _ _ (fun _ => hHeld) ?_
      clear hK K
      try simp only [Act.put, List.setIfInBounds_toArray, List.set]
      refine PhaseIn.one (i := 4) (by kernel_rfl) rfl (by kernel_rfl) (fun K hK => ?_)
      unfold Oper.wpIn
      refine ⟨fun _ _ => trivial, ?_⟩
      go_simp
      refine ⟨rfl, (callsIn_wide.2 (La.laMach x _ _ _ MW.out (hHeld.box (X2, [.slice bq1 x.regs.length bk1, .int .i64 x.pc, .slice bq2 x.mem.length bk2, .int .i64 x.save, .bool x.lets, .bool x.waits, .int .i64 x.halt, .slice bq3 x.ins.length bk3, .slice bq4 x.outs.length bk4, .int .i64 x.count], x) List.mem_cons_self).2)).mono ?_⟩
      rintro e wv7 ⟨rfl, hb⟩
      replace hHeld := hHeld.below hb
      clear hb
      refine hK _ _ (fun _ => hHeld) ?_
      clear hK K
      try simp only [Act.put, List.setIfInBounds_toArray, List.set]
      clear MW
      refine PhaseIn.takeD (i := 5) (v := ?_) [5] 2 rfl (by rfl) (by kernel_rfl) (by kernel_rfl) (by kernel_rfl) (by kernel_rfl) (by kernel_rfl) (fun _ _ _ h => h) (Or.inl ⟨by kernel_rfl, ?_⟩) hHeld ?_
      rotate_left
      · intro w' hSw
        (try dsimp only at hSw)
        go_simp
        first | done | with_reducible rfl
      try simp only [Act.put, List.setIfInBounds_toArray, List.set]
      refine PhaseIn.done (by kernel_rfl) ?_ _
      have S := hide hHeld
      clear hHeld
      have FIN := hide S.out.bw
      clear S
      go_wp2
      go_ret
      exact ⟨rfl, FIN.out⟩
    · skip
      obtain ⟨bq1, bq2, bq3, bq4, bk1, bk2, bk3, bk4, rfl⟩ := rforms M2
      have S2 := hide (Sit.add S.out M2)
      simp only [mv] at M2 S2 ⊢
      clear S M2
      have S := S2
      clear S2
      have ac0 := (S.out.box (X1, [.slice aq1 m.regs.length ak1, .int .i64 m.pc, .slice aq2 m.mem.length ak2, .int .i64 m.save, .bool m.lets, .bool m.waits, .int .i64 m.halt, .slice aq3 m.ins.length ak3, .slice aq4 m.outs.length ak4, .int .i64 m.count], m) (List.mem_cons_of_mem _ List.mem_cons_self)).1.r.cell 0 _ rfl
      have ac1 := (S.out.box (X1, [.slice aq1 m.regs.length ak1, .int .i64 m.pc, .slice aq2 m.mem.length ak2, .int .i64 m.save, .bool m.lets, .bool m.waits, .int .i64 m.halt, .slice aq3 m.ins.length ak3, .slice aq4 m.outs.length ak4, .int .i64 m.count], m) (List.mem_cons_of_mem _ List.mem_cons_self)).1.r.cell 1 _ rfl
      have ac2 := (S.out.box (X1, [.slice aq1 m.regs.length ak1, .int .i64 m.pc, .slice aq2 m.mem.length ak2, .int .i64 m.save, .bool m.lets, .bool m.waits, .int .i64 m.halt, .slice aq3 m.ins.length ak3, .slice aq4 m.outs.length ak4, .int .i64 m.count], m) (List.mem_cons_of_mem _ List.mem_cons_self)).1.r.cell 2 _ rfl
      have ac3 := (S.out.box (X1, [.slice aq1 m.regs.length ak1, .int .i64 m.pc, .slice aq2 m.mem.length ak2, .int .i64 m.save, .bool m.lets, .bool m.waits, .int .i64 m.halt, .slice aq3 m.ins.length ak3, .slice aq4 m.outs.length ak4, .int .i64 m.count], m) (List.mem_cons_of_mem _ List.mem_cons_self)).1.r.cell 3 _ rfl
      have ac4 := (S.out.box (X1, [.slice aq1 m.regs.length ak1, .int .i64 m.pc, .slice aq2 m.mem.length ak2, .int .i64 m.save, .bool m.lets, .bool m.waits, .int .i64 m.halt, .slice aq3 m.ins.length ak3, .slice aq4 m.outs.length ak4, .int .i64 m.count], m) (List.mem_cons_of_mem _ List.mem_cons_self)).1.r.cell 4 _ rfl
      have ac5 := (S.out.box (X1, [.slice aq1 m.regs.length ak1, .int .i64 m.pc, .slice aq2 m.mem.length ak2, .int .i64 m.save, .bool m.lets, .bool m.waits, .int .i64 m.halt, .slice aq3 m.ins.length ak3, .slice aq4 m.outs.length ak4, .int .i64 m.count], m) (List.mem_cons_of_mem _ List.mem_cons_self)).1.r.cell 5 _ rfl
      have ac6 := (S.out.box (X1, [.slice aq1 m.regs.length ak1, .int .i64 m.pc, .slice aq2 m.mem.length ak2, .int .i64 m.save, .bool m.lets, .bool m.waits, .int .i64 m.halt, .slice aq3 m.ins.length ak3, .slice aq4 m.outs.length ak4, .int .i64 m.count], m) (List.mem_cons_of_mem _ List.mem_cons_self)).1.r.cell 6 _ rfl
      have ac7 := (S.out.box (X1, [.slice aq1 m.regs.length ak1, .int .i64 m.pc, .slice aq2 m.mem.length ak2, .int .i64 m.save, .bool m.lets, .bool m.waits, .int .i64 m.halt, .slice aq3 m.ins.length ak3, .slice aq4 m.outs.length ak4, .int .i64 m.count], m) (List.mem_cons_of_mem _ List.mem_cons_self)).1.r.cell 7 _ rfl
      have ac8 := (S.out.box (X1, [.slice aq1 m.regs.length ak1, .int .i64 m.pc, .slice aq2 m.mem.length ak2, .int .i64 m.save, .bool m.lets, .bool m.waits, .int .i64 m.halt, .slice aq3 m.ins.length ak3, .slice aq4 m.outs.length ak4, .int .i64 m.count], m) (List.mem_cons_of_mem _ List.mem_cons_self)).1.r.cell 8 _ rfl
      have ac9 := (S.out.box (X1, [.slice aq1 m.regs.length ak1, .int .i64 m.pc, .slice aq2 m.mem.length ak2, .int .i64 m.save, .bool m.lets, .bool m.waits, .int .i64 m.halt, .slice aq3 m.ins.length ak3, .slice aq4 m.outs.length ak4, .int .i64 m.count], m) (List.mem_cons_of_mem _ List.mem_cons_self)).1.r.cell 9 _ rfl
      go_wp2_with fail
      clear ac0 ac1 ac2 ac3 ac4 ac5 ac6 ac7 ac8 ac9
      generalize hZ : wv3.heap.size = X2 at S ⊢
      clear hZ
      generalize wv3.alloc (.cells #[.slice bq1 x.regs.length bk1, .int .i64 x.pc, .slice bq2 x.mem.length bk2, .int .i64 x.save, .bool x.lets, .bool x.waits, .int .i64 x.halt, .slice bq3 x.ins.length bk3, .slice bq4 x.outs.length bk4, .int .i64 x.count] 25) = wv4 at S ⊢
      refine (wpIn_wide (n := 0)).1 ?_
      have S2 := hide S.out.drew
      clear S
      have S := S2
      clear S2
      refine PhaseIn.region (S := fun v => Sit w [(X2, [.slice bq1 x.regs.length bk1, .int .i64 x.pc, .slice bq2 x.mem.length bk2, .int .i64 x.save, .bool x.lets, .bool x.waits, .int .i64 x.halt, .slice bq3 x.ins.length bk3, .slice bq4 x.outs.length bk4, .int .i64 x.count], x), (X1, [.slice aq1 m.regs.length ak1, .int .i64 m.pc, .slice aq2 m.mem.length ak2, .int .i64 m.save, .bool m.lets, .bool m.waits, .int .i64 m.halt, .slice aq3 m.ins.length ak3, .slice aq4 m.outs.length ak4, .int .i64 m.count], m)] [(Bi, (.slice qi li ci), xs)] v) 6 (by kernel_rfl) ?_
      generalize wv4.drew = wv5 at *
      have hHeld := S.out
      clear S
      refine PhaseIn.takeD (i := 0) (v := ?_) [0, 2, 4, 5] 45 rfl (by rfl) (by kernel_rfl) (by kernel_rfl) (by kernel_rfl) (by kernel_rfl) (by kernel_rfl) (fun _ _ _ h => h) (Or.inl ⟨by kernel_rfl, ?_⟩) hHeld ?_
      rotate_left
      · intro w' hSw
        (try dsimp only at hSw)
        have z0 := (hSw.box (X2, [.slice bq1 x.regs.length bk1, .int .i64 x.pc, .slice bq2 x.mem.length bk2, .int .i64 x.save, .bool x.lets, .bool x.waits, .int .i64 x.halt, .slice bq3 x.ins.length bk3, .slice bq4 x.outs.length bk4, .int .i64 x.count], x) List.mem_cons_self).1.r.cell 0 _ rfl
        have z1 := (hSw.box (X2, [.slice bq1 x.regs.length bk1, .int .i64 x.pc, .slice bq2 x.mem.length bk2, .int .i64 x.save, .bool x.lets, .bool x.waits, .int .i64 x.halt, .slice bq3 x.ins.length bk3, .slice bq4 x.outs.length bk4, .int .i64 x.count], x) List.mem_cons_self).1.r.cell 1 _ rfl
        have z2 := (hSw.box (X2, [.slice bq1 x.regs.length bk1, .int .i64 x.pc, .slice bq2 x.mem.length bk2, .int .i64 x.save, .bool x.lets, .bool x.waits, .int .i64 x.halt, .slice bq3 x.ins.length bk3, .slice bq4 x.outs.length bk4, .int .i64 x.count], x) List.mem_cons_self).1.r.cell 2 _ rfl
        have z3 := (hSw.box (X2, [.slice bq1 x.regs.length bk1, .int .i64 x.pc, .slice bq2 x.mem.length bk2, .int .i64 x.save, .bool x.lets, .bool x.waits, .int .i64 x.halt, .slice bq3 x.ins.length bk3, .slice bq4 x.outs.length bk4, .int .i64 x.count], x) List.mem_cons_self).1.r.cell 3 _ rfl
        have z4 := (hSw.box (X2, [.slice bq1 x.regs.length bk1, .int .i64 x.pc, .slice bq2 x.mem.length bk2, .int .i64 x.save, .bool x.lets, .bool x.waits, .int .i64 x.halt, .slice bq3 x.ins.length bk3, .slice bq4 x.outs.length bk4, .int .i64 x.count], x) List.mem_cons_self).1.r.cell 4 _ rfl
        have z5 := (hSw.box (X2, [.slice bq1 x.regs.length bk1, .int .i64 x.pc, .slice bq2 x.mem.length bk2, .int .i64 x.save, .bool x.lets, .bool x.waits, .int .i64 x.halt, .slice bq3 x.ins.length bk3, .slice bq4 x.outs.length bk4, .int .i64 x.count], x) List.mem_cons_self).1.r.cell 5 _ rfl
        have z6 := (hSw.box (X2, [.slice bq1 x.regs.length bk1, .int .i64 x.pc, .slice bq2 x.mem.length bk2, .int .i64 x.save, .bool x.lets, .bool x.waits, .int .i64 x.halt, .slice bq3 x.ins.length bk3, .slice bq4 x.outs.length bk4, .int .i64 x.count], x) List.mem_cons_self).1.r.cell 6 _ rfl
        have z7 := (hSw.box (X2, [.slice bq1 x.regs.length bk1, .int .i64 x.pc, .slice bq2 x.mem.length bk2, .int .i64 x.save, .bool x.lets, .bool x.waits, .int .i64 x.halt, .slice bq3 x.ins.length bk3, .slice bq4 x.outs.length bk4, .int .i64 x.count], x) List.mem_cons_self).1.r.cell 7 _ rfl
        have z8 := (hSw.box (X2, [.slice bq1 x.regs.length bk1, .int .i64 x.pc, .slice bq2 x.mem.length bk2, .int .i64 x.save, .bool x.lets, .bool x.waits, .int .i64 x.halt, .slice bq3 x.ins.length bk3, .slice bq4 x.outs.length bk4, .int .i64 x.count], x) List.mem_cons_self).1.r.cell 8 _ rfl
        have z9 := (hSw.box (X2, [.slice bq1 x.regs.length bk1, .int .i64 x.pc, .slice bq2 x.mem.length bk2, .int .i64 x.save, .bool x.lets, .bool x.waits, .int .i64 x.halt, .slice bq3 x.ins.length bk3, .slice bq4 x.outs.length bk4, .int .i64 x.count], x) List.mem_cons_self).1.r.cell 9 _ rfl
        go_simp
        first | done | with_reducible rfl
      try simp only [Act.put, List.setIfInBounds_toArray, List.set]
      refine PhaseIn.takeD (i := 1) (v := ?_) [1, 2, 4, 5] 46 rfl (by rfl) (by kernel_rfl) (by kernel_rfl) (by kernel_rfl) (by kernel_rfl) (by kernel_rfl) (fun _ _ _ h => h) (Or.inl ⟨by kernel_rfl, ?_⟩) hHeld ?_
      rotate_left
      · intro w' hSw
        (try dsimp only at hSw)
        go_simp
        first | done | with_reducible rfl
      try simp only [Act.put, List.setIfInBounds_toArray, List.set]
      refine PhaseIn.takeD (i := 3) (v := ?_) [3, 4, 5] 48 rfl (by rfl) (by kernel_rfl) (by kernel_rfl) (by kernel_rfl) (by kernel_rfl) (by kernel_rfl) (fun _ _ _ h => h) (Or.inl ⟨by kernel_rfl, ?_⟩) hHeld ?_
      rotate_left
      · intro w' hSw
        (try dsimp only at hSw)
        have z0 := (hSw.box (X2, [.slice bq1 x.regs.length bk1, .int .i64 x.pc, .slice bq2 x.mem.length bk2, .int .i64 x.save, .bool x.lets, .bool x.waits, .int .i64 x.halt, .slice bq3 x.ins.length bk3, .slice bq4 x.outs.length bk4, .int .i64 x.count], x) List.mem_cons_self).1.r.cell 0 _ rfl
        have z1 := (hSw.box (X2, [.slice bq1 x.regs.length bk1, .int .i64 x.pc, .slice bq2 x.mem.length bk2, .int .i64 x.save, .bool x.lets, .bool x.waits, .int .i64 x.halt, .slice bq3 x.ins.length bk3, .slice bq4 x.outs.length bk4, .int .i64 x.count], x) List.mem_cons_self).1.r.cell 1 _ rfl
        have z2 := (hSw.box (X2, [.slice bq1 x.regs.length bk1, .int .i64 x.pc, .slice bq2 x.mem.length bk2, .int .i64 x.save, .bool x.lets, .bool x.waits, .int .i64 x.halt, .slice bq3 x.ins.length bk3, .slice bq4 x.outs.length bk4, .int .i64 x.count], x) List.mem_cons_self).1.r.cell 2 _ rfl
        have z3 := (hSw.box (X2, [.slice bq1 x.regs.length bk1, .int .i64 x.pc, .slice bq2 x.mem.length bk2, .int .i64 x.save, .bool x.lets, .bool x.waits, .int .i64 x.halt, .slice bq3 x.ins.length bk3, .slice bq4 x.outs.length bk4, .int .i64 x.count], x) List.mem_cons_self).1.r.cell 3 _ rfl
        have z4 := (hSw.box (X2, [.slice bq1 x.regs.length bk1, .int .i64 x.pc, .slice bq2 x.mem.length bk2, .int .i64 x.save, .bool x.lets, .bool x.waits, .int .i64 x.halt, .slice bq3 x.ins.length bk3, .slice bq4 x.outs.length bk4, .int .i64 x.count], x) List.mem_cons_self).1.r.cell 4 _ rfl
        have z5 := (hSw.box (X2, [.slice bq1 x.regs.length bk1, .int .i64 x.pc, .slice bq2 x.mem.length bk2, .int .i64 x.save, .bool x.lets, .bool x.waits, .int .i64 x.halt, .slice bq3 x.ins.length bk3, .slice bq4 x.outs.length bk4, .int .i64 x.count], x) List.mem_cons_self).1.r.cell 5 _ rfl
        have z6 := (hSw.box (X2, [.slice bq1 x.regs.length bk1, .int .i64 x.pc, .slice bq2 x.mem.length bk2, .int .i64 x.save, .bool x.lets, .bool x.waits, .int .i64 x.halt, .slice bq3 x.ins.length bk3, .slice bq4 x.outs.length bk4, .int .i64 x.count], x) List.mem_cons_self).1.r.cell 6 _ rfl
        have z7 := (hSw.box (X2, [.slice bq1 x.regs.length bk1, .int .i64 x.pc, .slice bq2 x.mem.length bk2, .int .i64 x.save, .bool x.lets, .bool x.waits, .int .i64 x.halt, .slice bq3 x.ins.length bk3, .slice bq4 x.outs.length bk4, .int .i64 x.count], x) List.mem_cons_self).1.r.cell 7 _ rfl
        have z8 := (hSw.box (X2, [.slice bq1 x.regs.length bk1, .int .i64 x.pc, .slice bq2 x.mem.length bk2, .int .i64 x.save, .bool x.lets, .bool x.waits, .int .i64 x.halt, .slice bq3 x.ins.length bk3, .slice bq4 x.outs.length bk4, .int .i64 x.count], x) List.mem_cons_self).1.r.cell 8 _ rfl
        have z9 := (hSw.box (X2, [.slice bq1 x.regs.length bk1, .int .i64 x.pc, .slice bq2 x.mem.length bk2, .int .i64 x.save, .bool x.lets, .bool x.waits, .int .i64 x.halt, .slice bq3 x.ins.length bk3, .slice bq4 x.outs.length bk4, .int .i64 x.count], x) List.mem_cons_self).1.r.cell 9 _ rfl
        go_simp
        first | done | with_reducible rfl
      try simp only [Act.put, List.setIfInBounds_toArray, List.set]
      refine PhaseIn.one (i := 2) (by kernel_rfl) rfl (by kernel_rfl) (fun K hK => ?_)
      unfold Oper.wpIn
      refine ⟨fun _ _ => trivial, ?_⟩
      go_simp
      refine ⟨rfl, (callsIn_wide.2 (MchI.mchRun x xs 7 _ _ _ _ (hHeld.box (X2, [.slice bq1 x.regs.length bk1, .int .i64 x.pc, .slice bq2 x.mem.length bk2, .int .i64 x.save, .bool x.lets, .bool x.waits, .int .i64 x.halt, .slice bq3 x.ins.length bk3, .slice bq4 x.outs.length bk4, .int .i64 x.count], x) List.mem_cons_self).2 (hHeld.row (Bi, (.slice qi li ci), xs) List.mem_cons_self) NX.out)).mono ?_⟩
      rintro e wv6 ⟨c3, rfl, M3, hb⟩
      have MW := hide M3.read
      rw [EA.out] at MW
      clear M3
      replace hHeld := hHeld.below hb
      clear hb
      refine hK _ _ (fun _ => hHeld) ?_
      clear hK K
      try simp only [Act.put, List.setIfInBounds_toArray, List.set]
      refine PhaseIn.one (i := 4) (by kernel_rfl) rfl (by kernel_rfl) (fun K hK => ?_)
      unfold Oper.wpIn
      refine ⟨fun _ _ => trivial, ?_⟩
      go_simp
      refine ⟨rfl, (callsIn_wide.2 (La.laMach x _ _ _ MW.out (hHeld.box (X2, [.slice bq1 x.regs.length bk1, .int .i64 x.pc, .slice bq2 x.mem.length bk2, .int .i64 x.save, .bool x.lets, .bool x.waits, .int .i64 x.halt, .slice bq3 x.ins.length bk3, .slice bq4 x.outs.length bk4, .int .i64 x.count], x) List.mem_cons_self).2)).mono ?_⟩
      rintro e wv7 ⟨rfl, hb⟩
      replace hHeld := hHeld.below hb
      clear hb
      refine hK _ _ (fun _ => hHeld) ?_
      clear hK K
      try simp only [Act.put, List.setIfInBounds_toArray, List.set]
      clear MW
      refine PhaseIn.takeD (i := 5) (v := ?_) [5] 2 rfl (by rfl) (by kernel_rfl) (by kernel_rfl) (by kernel_rfl) (by kernel_rfl) (by kernel_rfl) (fun _ _ _ h => h) (Or.inl ⟨by kernel_rfl, ?_⟩) hHeld ?_
      rotate_left
      · intro w' hSw
        (try dsimp only at hSw)
        go_simp
        first | done | with_reducible rfl
      try simp only [Act.put, List.setIfInBounds_toArray, List.set]
      refine PhaseIn.done (by kernel_rfl) ?_ _
      have S := hide hHeld
      clear hHeld
      have FIN := hide S.out.bw
      clear S
      go_wp2
      go_ret
      exact ⟨rfl, FIN.out⟩
    · skip
      obtain ⟨bq1, bq2, bq3, bq4, bk1, bk2, bk3, bk4, rfl⟩ := rforms M2
      have S2 := hide (Sit.add S.out M2)
      simp only [mv] at M2 S2 ⊢
      clear S M2
      have S := S2
      clear S2
      have ac0 := (S.out.box (X1, [.slice aq1 m.regs.length ak1, .int .i64 m.pc, .slice aq2 m.mem.length ak2, .int .i64 m.save, .bool m.lets, .bool m.waits, .int .i64 m.halt, .slice aq3 m.ins.length ak3, .slice aq4 m.outs.length ak4, .int .i64 m.count], m) (List.mem_cons_of_mem _ List.mem_cons_self)).1.r.cell 0 _ rfl
      have ac1 := (S.out.box (X1, [.slice aq1 m.regs.length ak1, .int .i64 m.pc, .slice aq2 m.mem.length ak2, .int .i64 m.save, .bool m.lets, .bool m.waits, .int .i64 m.halt, .slice aq3 m.ins.length ak3, .slice aq4 m.outs.length ak4, .int .i64 m.count], m) (List.mem_cons_of_mem _ List.mem_cons_self)).1.r.cell 1 _ rfl
      have ac2 := (S.out.box (X1, [.slice aq1 m.regs.length ak1, .int .i64 m.pc, .slice aq2 m.mem.length ak2, .int .i64 m.save, .bool m.lets, .bool m.waits, .int .i64 m.halt, .slice aq3 m.ins.length ak3, .slice aq4 m.outs.length ak4, .int .i64 m.count], m) (List.mem_cons_of_mem _ List.mem_cons_self)).1.r.cell 2 _ rfl
      have ac3 := (S.out.box (X1, [.slice aq1 m.regs.length ak1, .int .i64 m.pc, .slice aq2 m.mem.length ak2, .int .i64 m.save, .bool m.lets, .bool m.waits, .int .i64 m.halt, .slice aq3 m.ins.length ak3, .slice aq4 m.outs.length ak4, .int .i64 m.count], m) (List.mem_cons_of_mem _ List.mem_cons_self)).1.r.cell 3 _ rfl
      have ac4 := (S.out.box (X1, [.slice aq1 m.regs.length ak1, .int .i64 m.pc, .slice aq2 m.mem.length ak2, .int .i64 m.save, .bool m.lets, .bool m.waits, .int .i64 m.halt, .slice aq3 m.ins.length ak3, .slice aq4 m.outs.length ak4, .int .i64 m.count], m) (List.mem_cons_of_mem _ List.mem_cons_self)).1.r.cell 4 _ rfl
      have ac5 := (S.out.box (X1, [.slice aq1 m.regs.length ak1, .int .i64 m.pc, .slice aq2 m.mem.length ak2, .int .i64 m.save, .bool m.lets, .bool m.waits, .int .i64 m.halt, .slice aq3 m.ins.length ak3, .slice aq4 m.outs.length ak4, .int .i64 m.count], m) (List.mem_cons_of_mem _ List.mem_cons_self)).1.r.cell 5 _ rfl
      have ac6 := (S.out.box (X1, [.slice aq1 m.regs.length ak1, .int .i64 m.pc, .slice aq2 m.mem.length ak2, .int .i64 m.save, .bool m.lets, .bool m.waits, .int .i64 m.halt, .slice aq3 m.ins.length ak3, .slice aq4 m.outs.length ak4, .int .i64 m.count], m) (List.mem_cons_of_mem _ List.mem_cons_self)).1.r.cell 6 _ rfl
      have ac7 := (S.out.box (X1, [.slice aq1 m.regs.length ak1, .int .i64 m.pc, .slice aq2 m.mem.length ak2, .int .i64 m.save, .bool m.lets, .bool m.waits, .int .i64 m.halt, .slice aq3 m.ins.length ak3, .slice aq4 m.outs.length ak4, .int .i64 m.count], m) (List.mem_cons_of_mem _ List.mem_cons_self)).1.r.cell 7 _ rfl
      have ac8 := (S.out.box (X1, [.slice aq1 m.regs.length ak1, .int .i64 m.pc, .slice aq2 m.mem.length ak2, .int .i64 m.save, .bool m.lets, .bool m.waits, .int .i64 m.halt, .slice aq3 m.ins.length ak3, .slice aq4 m.outs.length ak4, .int .i64 m.count], m) (List.mem_cons_of_mem _ List.mem_cons_self)).1.r.cell 8 _ rfl
      have ac9 := (S.out.box (X1, [.slice aq1 m.regs.length ak1, .int .i64 m.pc, .slice aq2 m.mem.length ak2, .int .i64 m.save, .bool m.lets, .bool m.waits, .int .i64 m.halt, .slice aq3 m.ins.length ak3, .slice aq4 m.outs.length ak4, .int .i64 m.count], m) (List.mem_cons_of_mem _ List.mem_cons_self)).1.r.cell 9 _ rfl
      go_wp2_with fail
      clear ac0 ac1 ac2 ac3 ac4 ac5 ac6 ac7 ac8 ac9
      generalize hZ : wv3.heap.size = X2 at S ⊢
      clear hZ
      generalize wv3.alloc (.cells #[.slice bq1 x.regs.length bk1, .int .i64 x.pc, .slice bq2 x.mem.length bk2, .int .i64 x.save, .bool x.lets, .bool x.waits, .int .i64 x.halt, .slice bq3 x.ins.length bk3, .slice bq4 x.outs.length bk4, .int .i64 x.count] 25) = wv4 at S ⊢
      refine (wpIn_wide (n := 0)).1 ?_
      have S2 := hide S.out.drew
      clear S
      have S := S2
      clear S2
      refine PhaseIn.region (S := fun v => Sit w [(X2, [.slice bq1 x.regs.length bk1, .int .i64 x.pc, .slice bq2 x.mem.length bk2, .int .i64 x.save, .bool x.lets, .bool x.waits, .int .i64 x.halt, .slice bq3 x.ins.length bk3, .slice bq4 x.outs.length bk4, .int .i64 x.count], x), (X1, [.slice aq1 m.regs.length ak1, .int .i64 m.pc, .slice aq2 m.mem.length ak2, .int .i64 m.save, .bool m.lets, .bool m.waits, .int .i64 m.halt, .slice aq3 m.ins.length ak3, .slice aq4 m.outs.length ak4, .int .i64 m.count], m)] [(Bi, (.slice qi li ci), xs)] v) 6 (by kernel_rfl) ?_
      generalize wv4.drew = wv5 at *
      have hHeld := S.out
      clear S
      refine PhaseIn.takeD (i := 0) (v := ?_) [0, 2, 4, 5] 45 rfl (by rfl) (by kernel_rfl) (by kernel_rfl) (by kernel_rfl) (by kernel_rfl) (by kernel_rfl) (fun _ _ _ h => h) (Or.inl ⟨by kernel_rfl, ?_⟩) hHeld ?_
      rotate_left
      · intro w' hSw
        (try dsimp only at hSw)
        have z0 := (hSw.box (X2, [.slice bq1 x.regs.length bk1, .int .i64 x.pc, .slice bq2 x.mem.length bk2, .int .i64 x.save, .bool x.lets, .bool x.waits, .int .i64 x.halt, .slice bq3 x.ins.length bk3, .slice bq4 x.outs.length bk4, .int .i64 x.count], x) List.mem_cons_self).1.r.cell 0 _ rfl
        have z1 := (hSw.box (X2, [.slice bq1 x.regs.length bk1, .int .i64 x.pc, .slice bq2 x.mem.length bk2, .int .i64 x.save, .bool x.lets, .bool x.waits, .int .i64 x.halt, .slice bq3 x.ins.length bk3, .slice bq4 x.outs.length bk4, .int .i64 x.count], x) List.mem_cons_self).1.r.cell 1 _ rfl
        have z2 := (hSw.box (X2, [.slice bq1 x.regs.length bk1, .int .i64 x.pc, .slice bq2 x.mem.length bk2, .int .i64 x.save, .bool x.lets, .bool x.waits, .int .i64 x.halt, .slice bq3 x.ins.length bk3, .slice bq4 x.outs.length bk4, .int .i64 x.count], x) List.mem_cons_self).1.r.cell 2 _ rfl
        have z3 := (hSw.box (X2, [.slice bq1 x.regs.length bk1, .int .i64 x.pc, .slice bq2 x.mem.length bk2, .int .i64 x.save, .bool x.lets, .bool x.waits, .int .i64 x.halt, .slice bq3 x.ins.length bk3, .slice bq4 x.outs.length bk4, .int .i64 x.count], x) List.mem_cons_self).1.r.cell 3 _ rfl
        have z4 := (hSw.box (X2, [.slice bq1 x.regs.length bk1, .int .i64 x.pc, .slice bq2 x.mem.length bk2, .int .i64 x.save, .bool x.lets, .bool x.waits, .int .i64 x.halt, .slice bq3 x.ins.length bk3, .slice bq4 x.outs.length bk4, .int .i64 x.count], x) List.mem_cons_self).1.r.cell 4 _ rfl
        have z5 := (hSw.box (X2, [.slice bq1 x.regs.length bk1, .int .i64 x.pc, .slice bq2 x.mem.length bk2, .int .i64 x.save, .bool x.lets, .bool x.waits, .int .i64 x.halt, .slice bq3 x.ins.length bk3, .slice bq4 x.outs.length bk4, .int .i64 x.count], x) List.mem_cons_self).1.r.cell 5 _ rfl
        have z6 := (hSw.box (X2, [.slice bq1 x.regs.length bk1, .int .i64 x.pc, .slice bq2 x.mem.length bk2, .int .i64 x.save, .bool x.lets, .bool x.waits, .int .i64 x.halt, .slice bq3 x.ins.length bk3, .slice bq4 x.outs.length bk4, .int .i64 x.count], x) List.mem_cons_self).1.r.cell 6 _ rfl
        have z7 := (hSw.box (X2, [.slice bq1 x.regs.length bk1, .int .i64 x.pc, .slice bq2 x.mem.length bk2, .int .i64 x.save, .bool x.lets, .bool x.waits, .int .i64 x.halt, .slice bq3 x.ins.length bk3, .slice bq4 x.outs.length bk4, .int .i64 x.count], x) List.mem_cons_self).1.r.cell 7 _ rfl
        have z8 := (hSw.box (X2, [.slice bq1 x.regs.length bk1, .int .i64 x.pc, .slice bq2 x.mem.length bk2, .int .i64 x.save, .bool x.lets, .bool x.waits, .int .i64 x.halt, .slice bq3 x.ins.length bk3, .slice bq4 x.outs.length bk4, .int .i64 x.count], x) List.mem_cons_self).1.r.cell 8 _ rfl
        have z9 := (hSw.box (X2, [.slice bq1 x.regs.length bk1, .int .i64 x.pc, .slice bq2 x.mem.length bk2, .int .i64 x.save, .bool x.lets, .bool x.waits, .int .i64 x.halt, .slice bq3 x.ins.length bk3, .slice bq4 x.outs.length bk4, .int .i64 x.count], x) List.mem_cons_self).1.r.cell 9 _ rfl
        go_simp
        first | done | with_reducible rfl
      try simp only [Act.put, List.setIfInBounds_toArray, List.set]
      refine PhaseIn.takeD (i := 1) (v := ?_) [1, 2, 4, 5] 46 rfl (by rfl) (by kernel_rfl) (by kernel_rfl) (by kernel_rfl) (by kernel_rfl) (by kernel_rfl) (fun _ _ _ h => h) (Or.inl ⟨by kernel_rfl, ?_⟩) hHeld ?_
      rotate_left
      · intro w' hSw
        (try dsimp only at hSw)
        go_simp
        first | done | with_reducible rfl
      try simp only [Act.put, List.setIfInBounds_toArray, List.set]
      refine PhaseIn.takeD (i := 3) (v := ?_) [3, 4, 5] 48 rfl (by rfl) (by kernel_rfl) (by kernel_rfl) (by kernel_rfl) (by kernel_rfl) (by kernel_rfl) (fun _ _ _ h => h) (Or.inl ⟨by kernel_rfl, ?_⟩) hHeld ?_
      rotate_left
      · intro w' hSw
        (try dsimp only at hSw)
        have z0 := (hSw.box (X2, [.slice bq1 x.regs.length bk1, .int .i64 x.pc, .slice bq2 x.mem.length bk2, .int .i64 x.save, .bool x.lets, .bool x.waits, .int .i64 x.halt, .slice bq3 x.ins.length bk3, .slice bq4 x.outs.length bk4, .int .i64 x.count], x) List.mem_cons_self).1.r.cell 0 _ rfl
        have z1 := (hSw.box (X2, [.slice bq1 x.regs.length bk1, .int .i64 x.pc, .slice bq2 x.mem.length bk2, .int .i64 x.save, .bool x.lets, .bool x.waits, .int .i64 x.halt, .slice bq3 x.ins.length bk3, .slice bq4 x.outs.length bk4, .int .i64 x.count], x) List.mem_cons_self).1.r.cell 1 _ rfl
        have z2 := (hSw.box (X2, [.slice bq1 x.regs.length bk1, .int .i64 x.pc, .slice bq2 x.mem.length bk2, .int .i64 x.save, .bool x.lets, .bool x.waits, .int .i64 x.halt, .slice bq3 x.ins.length bk3, .slice bq4 x.outs.length bk4, .int .i64 x.count], x) List.mem_cons_self).1.r.cell 2 _ rfl
        have z3 := (hSw.box (X2, [.slice bq1 x.regs.length bk1, .int .i64 x.pc, .slice bq2 x.mem.length bk2, .int .i64 x.save, .bool x.lets, .bool x.waits, .int .i64 x.halt, .slice bq3 x.ins.length bk3, .slice bq4 x.outs.length bk4, .int .i64 x.count], x) List.mem_cons_self).1.r.cell 3 _ rfl
        have z4 := (hSw.box (X2, [.slice bq1 x.regs.length bk1, .int .i64 x.pc, .slice bq2 x.mem.length bk2, .int .i64 x.save, .bool x.lets, .bool x.waits, .int .i64 x.halt, .slice bq3 x.ins.length bk3, .slice bq4 x.outs.length bk4, .int .i64 x.count], x) List.mem_cons_self).1.r.cell 4 _ rfl
        have z5 := (hSw.box (X2, [.slice bq1 x.regs.length bk1, .int .i64 x.pc, .slice bq2 x.mem.length bk2, .int .i64 x.save, .bool x.lets, .bool x.waits, .int .i64 x.halt, .slice bq3 x.ins.length bk3, .slice bq4 x.outs.length bk4, .int .i64 x.count], x) List.mem_cons_self).1.r.cell 5 _ rfl
        have z6 := (hSw.box (X2, [.slice bq1 x.regs.length bk1, .int .i64 x.pc, .slice bq2 x.mem.length bk2, .int .i64 x.save, .bool x.lets, .bool x.waits, .int .i64 x.halt, .slice bq3 x.ins.length bk3, .slice bq4 x.outs.length bk4, .int .i64 x.count], x) List.mem_cons_self).1.r.cell 6 _ rfl
        have z7 := (hSw.box (X2, [.slice bq1 x.regs.length bk1, .int .i64 x.pc, .slice bq2 x.mem.length bk2, .int .i64 x.save, .bool x.lets, .bool x.waits, .int .i64 x.halt, .slice bq3 x.ins.length bk3, .slice bq4 x.outs.length bk4, .int .i64 x.count], x) List.mem_cons_self).1.r.cell 7 _ rfl
        have z8 := (hSw.box (X2, [.slice bq1 x.regs.length bk1, .int .i64 x.pc, .slice bq2 x.mem.length bk2, .int .i64 x.save, .bool x.lets, .bool x.waits, .int .i64 x.halt, .slice bq3 x.ins.length bk3, .slice bq4 x.outs.length bk4, .int .i64 x.count], x) List.mem_cons_self).1.r.cell 8 _ rfl
        have z9 := (hSw.box (X2, [.slice bq1 x.regs.length bk1, .int .i64 x.pc, .slice bq2 x.mem.length bk2, .int .i64 x.save, .bool x.lets, .bool x.waits, .int .i64 x.halt, .slice bq3 x.ins.length bk3, .slice bq4 x.outs.length bk4, .int .i64 x.count], x) List.mem_cons_self).1.r.cell 9 _ rfl
        go_simp
        first | done | with_reducible rfl
      try simp only [Act.put, List.setIfInBounds_toArray, List.set]
      refine PhaseIn.one (i := 2) (by kernel_rfl) rfl (by kernel_rfl) (fun K hK => ?_)
      unfold Oper.wpIn
      refine ⟨fun _ _ => trivial, ?_⟩
      go_simp
      refine ⟨rfl, (callsIn_wide.2 (MchI.mchRun x xs 7 _ _ _ _ (hHeld.box (X2, [.slice bq1 x.regs.length bk1, .int .i64 x.pc, .slice bq2 x.mem.length bk2, .int .i64 x.save, .bool x.lets, .bool x.waits, .int .i64 x.halt, .slice bq3 x.ins.length bk3, .slice bq4 x.outs.length bk4, .int .i64 x.count], x) List.mem_cons_self).2 (hHeld.row (Bi, (.slice qi li ci), xs) List.mem_cons_self) NX.out)).mono ?_⟩
      rintro e wv6 ⟨c3, rfl, M3, hb⟩
      have MW := hide M3.read
      rw [EA.out] at MW
      clear M3
      replace hHeld := hHeld.below hb
      clear hb
      refine hK _ _ (fun _ => hHeld) ?_
      clear hK K
      try simp only [Act.put, List.setIfInBounds_toArray, List.set]
      refine PhaseIn.one (i := 4) (by kernel_rfl) rfl (by kernel_rfl) (fun K hK => ?_)
      unfold Oper.wpIn
      refine ⟨fun _ _ => trivial, ?_⟩
      go_simp
      refine ⟨rfl, (callsIn_wide.2 (La.laMach x _ _ _ MW.out (hHeld.box (X2, [.slice bq1 x.regs.length bk1, .int .i64 x.pc, .slice bq2 x.mem.length bk2, .int .i64 x.save, .bool x.lets, .bool x.waits, .int .i64 x.halt, .slice bq3 x.ins.length bk3, .slice bq4 x.outs.length bk4, .int .i64 x.count], x) List.mem_cons_self).2)).mono ?_⟩
      rintro e wv7 ⟨rfl, hb⟩
      replace hHeld := hHeld.below hb
      clear hb
      refine hK _ _ (fun _ => hHeld) ?_
      clear hK K
      try simp only [Act.put, List.setIfInBounds_toArray, List.set]
      clear MW
      refine PhaseIn.takeD (i := 5) (v := ?_) [5] 2 rfl (by rfl) (by kernel_rfl) (by kernel_rfl) (by kernel_rfl) (by kernel_rfl) (by kernel_rfl) (fun _ _ _ h => h) (Or.inl ⟨by kernel_rfl, ?_⟩) hHeld ?_
      rotate_left
      · intro w' hSw
        (try dsimp only at hSw)
        go_simp
        first | done | with_reducible rfl
      try simp only [Act.put, List.setIfInBounds_toArray, List.set]
      refine PhaseIn.done (by kernel_rfl) ?_ _
      have S := hide hHeld
      clear hHeld
      have FIN := hide S.out.bw
      clear S
      go_wp2
      go_ret
      exact ⟨rfl, FIN.out⟩

set_option maxRecDepth 100000 in
theorem lifted (os : Os) (started : os.Started) (H : Type) (enc : TypeId × Value → H) :
    ReturnsInHanded {} Tryz.checked os 7 .any (Rows.fnMchStopSpec.pre6 enc Tryz.prog Tryz.f7 Rows.fnMchStopRow.domain false) (Rows.fnMchStopSpec.post enc Tryz.prog Tryz.f7 false true false false) := by
  refine returnsInHanded_of_change (C := Tryz.checked) own started (by kernel_rfl) Tryz.func7
    (ChangeSpec.witness6 (enc := enc) (C := Tryz.checked) false ⟨#[], #[.slice none 0 0], []⟩ 8 (by kernel_rfl) (by kernel_rfl) (by kernel_rfl) (by kernel_rfl)) ?_
  intro W base args ds gs before hval0 hW hcnd _
  have hval : ∀ (j : Nat) t v, Tryz.f7.params[j]? = some t → args[j]? = some v → Value.okWide Tryz.prog W .any base t v := hval0
  have hW' := hW
  obtain ⟨p, q, hA0, hV, rfl, hfz, hnd⟩ := hW
  have hA : DataW.TrodAll enc Tryz.prog W 0 (fun _ => true) true Tryz.f7.params.toList args.toList ds p := hA0
  rw [Tryz.params7] at hA hval
  obtain ⟨v0, vs0, d0, ds0, p0, q0, hargs, rfl, rfl, h0, r0⟩ := trodAll_cons hA
  obtain ⟨rfl, rfl, rfl⟩ := trodAll_nil r0
  obtain rfl : args = #[v0] := by cases args; simp_all
  obtain ⟨rfl, rfl⟩ := trodVars_none hV
  obtain ⟨a0, len0, cap0, rfl⟩ := okWide_slice Tryz.underlying22 (hval 0 22 v0 rfl rfl)
  have k0 := h0
  have lt0 : ∀ x ∈ p0, x.block < W.heap.size := by obtain ⟨m, hm⟩ := k0; exact DataW.trod_lt m _ _ _ hm
  obtain ⟨z0, w0⟩ : ∃ zs, IsRow .u8 W a0 len0 cap0 zs := by
    obtain ⟨fuel, hf⟩ := h0
    rcases open_ints Tryz.underlying22 Tryz.underlying5 (by kernel_rfl) hf with ⟨hcs, _⟩ | ⟨x, l, c, zs, hcs, _, hl, hm, hz, _, hcell, hwz⟩
    · simp [Value.cells] at hcs
      obtain ⟨rfl, rfl, rfl⟩ := hcs
      exact ⟨[], .inl ⟨rfl, rfl, rfl, rfl⟩⟩
    · simp [Value.cells] at hcs
      obtain ⟨rfl, rfl, rfl⟩ := hcs
      exact ⟨zs, .inr ⟨_, rfl, hl, hm, by simpa using hz, hcell, hwz⟩⟩
  clear hA0 hval0
  refine (walk a0 len0 cap0 z0 W w0).mono fun e W' ⟨he, bel⟩ => ?_
  subst he
  exact ⟨_, rfl, _, _, _, [], _, [], hW', trodAll_mk1 (shut_bool Tryz.underlying4 _), (trodAll_cons_mk (Below.trod laidOut (by kernel_rfl) (of_decide_eq_true (by kernel_rfl)) k0 bel lt0) trodAll_mk0), rfl, bel.frame _, fun h => by cases h⟩

theorem over : Rows.fnMchStopRow.holds Tryz.pinned (OpenSpec.ofChange Rows.fnMchStopSpec) :=
  OpenClaim.holds_of_wide 7 Tryz.f7 rfl rfl rfl rfl rfl rfl rfl ⟨rfl, rfl, rfl, rfl, rfl⟩ rfl rfl rfl rfl rfl (by kernel_rfl) Tryz.func7 (by kernel_rfl)
    (of_decide_eq_true (by kernel_rfl)) (by unfold Func.isWrapper; first | (rw [if_pos (by decide +kernel)]; kernel_rfl) | (rw [if_neg (by decide +kernel)]; exact ⟨rfl, rfl⟩))
    (fun os started H enc _ => lifted os started H enc)

theorem proved : Rows.FnMchStopSaid := over
#print axioms proved
end Go.Proofs.YtnhpmbhphbphaaaGreat.fnMchStop
