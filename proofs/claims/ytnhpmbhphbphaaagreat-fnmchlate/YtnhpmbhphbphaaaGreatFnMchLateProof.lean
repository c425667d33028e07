/-
  At every code of bytes the law FnMchLate returns true (P80: an interrupt that would come ahead of an instruction that is not done leaves a run as it is); no condition.
  The frame (the steps lifted, over, proved) is the guide's shell, written by its program; the walk and the lemmas ahead of it are mine.
-/
import Derived.Test.YtnhpmbhphbphaaaGreatRows
import Derived.WalkKit
import Derived.ProofKit
import Derived.OpenShut
import Derived.Test.YtnhpmbhphbphaaaGreatSit
import Derived.Test.YtnhpmbhphbphaaaGreatMpE
import Derived.Test.YtnhpmbhphbphaaaGreatPhaseTw
import Derived.Deep.DeepCutAuto
import Derived.ShutString
import Derived.ChangeOld
import Derived.Below
namespace Go.Proofs.YtnhpmbhphbphaaaGreat.fnMchLate
open Go.ChangeShapes Go.WideShapes Go.ChangeAt Go.RowKit
open Go.ChangeMaps (open_string shut_string)
set_option linter.unusedVariables false

theorem own : ownKnob Tryz.prog.godebug = none := by kernel_rfl
theorem laidOut : laidOutB Tryz.prog = true := by kernel_rfl

def IsRow (k : IntKind) (w : World) (a : Option Addr) (len cap : Nat) (zs : List Int) : Prop :=
  (a = none ∧ len = 0 ∧ cap = 0 ∧ zs = []) ∨
  ∃ x, a = some x ∧ len ≤ cap ∧ cap ≤ maxLen ∧ zs.length = cap ∧ (∀ i, i < zs.length → w.cell? (x.add i) = some (.int k (zs.getD i 0))) ∧ ∀ n ∈ zs, (Lit.int k n).wf = true

open IntS Mch
set_option linter.unusedVariables false
set_option linter.unusedSimpArgs false

set_option maxRecDepth 8000 in
set_option maxHeartbeats 16000000 in
theorem walk (a0 : Option Addr) (len0 cap0 : Nat) (z0 : List Int) (w : World) (w0 : IsRow .u8 w a0 len0 cap0 z0) :
    Calls Tryz.prog 13 #[.slice a0 len0 cap0] w fun e w' => e = .returned (.bool true) ∧ Below w.heap.size w w' := by
  obtain ⟨hlc, hm, hc⟩ := Draw.code_row w a0 len0 cap0 z0 w0
  by_cases hl : 1048576 < len0
  · unfold maxLen at hm
    go_enter Tryz.func13, Tryz.ntmps13
    go_wp2
    go_ret
    exact ⟨rfl, Below.refl _ _⟩
  clear w0
  go_enter Tryz.func13, Tryz.ntmps13
  go_wp2_with fail
  refine (Draw.drawRun a0 len0 cap0 _ hlc hm hc).mono ?_
  rintro e va ⟨c, m, qi, li, ci, xs, n, Bi, rfl, MC, MF, RI, hxl, hx4, hn, hb⟩
  have FM := hide MF
  have S0 : Hid (Sit w [] [(Bi, (.slice qi li ci), xs)] va) := ⟨hb, fun b h => absurd h (by simp), fun r hr => by rcases List.mem_cons.1 hr with rfl | hr; exact RI; exact absurd hr (by simp)⟩
  have M0 := MC.write.read
  clear hc hm hlc hb MC MF RI
  have S := S0
  clear S0
  have HN := hide hn
  have HXL := hide (And.intro hxl hx4)
  clear hn hx4 hxl
  obtain ⟨aq1, aq2, aq3, aq4, ak1, ak2, ak3, ak4, rfl⟩ := rforms M0
  have S2 := hide (Sit.add S.out M0)
  simp only [mv] at M0 S2 ⊢
  clear S M0
  have S := S2
  clear S2
  go_wp2_with fail
  generalize hZ : va.heap.size = X1 at S ⊢
  clear hZ
  generalize va.alloc (.cells #[.slice aq1 m.regs.length ak1, .int .i64 m.pc, .slice aq2 m.mem.length ak2, .int .i64 m.save, .bool m.lets, .bool m.waits, .int .i64 m.halt, .slice aq3 m.ins.length ak3, .slice aq4 m.outs.length ak4, .int .i64 m.count] 25) = wv1 at S ⊢
  have ac0 := (S.out.box (X1, [.slice aq1 m.regs.length ak1, .int .i64 m.pc, .slice aq2 m.mem.length ak2, .int .i64 m.save, .bool m.lets, .bool m.waits, .int .i64 m.halt, .slice aq3 m.ins.length ak3, .slice aq4 m.outs.length ak4, .int .i64 m.count], m) List.mem_cons_self).1.r.cell 0 _ rfl
  have ac1 := (S.out.box (X1, [.slice aq1 m.regs.length ak1, .int .i64 m.pc, .slice aq2 m.mem.length ak2, .int .i64 m.save, .bool m.lets, .bool m.waits, .int .i64 m.halt, .slice aq3 m.ins.length ak3, .slice aq4 m.outs.length ak4, .int .i64 m.count], m) List.mem_cons_self).1.r.cell 1 _ rfl
  have ac2 := (S.out.box (X1, [.slice aq1 m.regs.length ak1, .int .i64 m.pc, .slice aq2 m.mem.length ak2, .int .i64 m.save, .bool m.lets, .bool m.waits, .int .i64 m.halt, .slice aq3 m.ins.length ak3, .slice aq4 m.outs.length ak4, .int .i64 m.count], m) List.mem_cons_self).1.r.cell 2 _ rfl
  have ac3 := (S.out.box (X1, [.slice aq1 m.regs.length ak1, .int .i64 m.pc, .slice aq2 m.mem.length ak2, .int .i64 m.save, .bool m.lets, .bool m.waits, .int .i64 m.halt, .slice aq3 m.ins.length ak3, .slice aq4 m.outs.length ak4, .int .i64 m.count], m) List.mem_cons_self).1.r.cell 3 _ rfl
  have ac4 := (S.out.box (X1, [.slice aq1 m.regs.length ak1, .int .i64 m.pc, .slice aq2 m.mem.length ak2, .int .i64 m.save, .bool m.lets, .bool m.waits, .int .i64 m.halt, .slice aq3 m.ins.length ak3, .slice aq4 m.outs.length ak4, .int .i64 m.count], m) List.mem_cons_self).1.r.cell 4 _ rfl
  have ac5 := (S.out.box (X1, [.slice aq1 m.regs.length ak1, .int .i64 m.pc, .slice aq2 m.mem.length ak2, .int .i64 m.save, .bool m.lets, .bool m.waits, .int .i64 m.halt, .slice aq3 m.ins.length ak3, .slice aq4 m.outs.length ak4, .int .i64 m.count], m) List.mem_cons_self).1.r.cell 5 _ rfl
  have ac6 := (S.out.box (X1, [.slice aq1 m.regs.length ak1, .int .i64 m.pc, .slice aq2 m.mem.length ak2, .int .i64 m.save, .bool m.lets, .bool m.waits, .int .i64 m.halt, .slice aq3 m.ins.length ak3, .slice aq4 m.outs.length ak4, .int .i64 m.count], m) List.mem_cons_self).1.r.cell 6 _ rfl
  have ac7 := (S.out.box (X1, [.slice aq1 m.regs.length ak1, .int .i64 m.pc, .slice aq2 m.mem.length ak2, .int .i64 m.save, .bool m.lets, .bool m.waits, .int .i64 m.halt, .slice aq3 m.ins.length ak3, .slice aq4 m.outs.length ak4, .int .i64 m.count], m) List.mem_cons_self).1.r.cell 7 _ rfl
  have ac8 := (S.out.box (X1, [.slice aq1 m.regs.length ak1, .int .i64 m.pc, .slice aq2 m.mem.length ak2, .int .i64 m.save, .bool m.lets, .bool m.waits, .int .i64 m.halt, .slice aq3 m.ins.length ak3, .slice aq4 m.outs.length ak4, .int .i64 m.count], m) List.mem_cons_self).1.r.cell 8 _ rfl
  have ac9 := (S.out.box (X1, [.slice aq1 m.regs.length ak1, .int .i64 m.pc, .slice aq2 m.mem.length ak2, .int .i64 m.save, .bool m.lets, .bool m.waits, .int .i64 m.halt, .slice aq3 m.ins.length ak3, .slice aq4 m.outs.length ak4, .int .i64 m.count], m) List.mem_cons_self).1.r.cell 9 _ rfl
  obtain ⟨ok, eo⟩ : ∃ ok, okM m = ok := ⟨_, rfl⟩
  have EO := hide eo
  clear eo
  refine (Mch.mchOk m _ _ (S.out.box (X1, [.slice aq1 m.regs.length ak1, .int .i64 m.pc, .slice aq2 m.mem.length ak2, .int .i64 m.save, .bool m.lets, .bool m.waits, .int .i64 m.halt, .slice aq3 m.ins.length ak3, .slice aq4 m.outs.length ak4, .int .i64 m.count], m) List.mem_cons_self).2).mono ?_
  rintro e wv2 ⟨rfl, hb⟩
  rw [EO.out]
  have S2 := hide (S.out.below hb)
  clear S
  have S := S2
  clear S2
  clear hb
  clear ac0 ac1 ac2 ac3 ac4 ac5 ac6 ac7 ac8 ac9
  cases ok with
  | false =>
    have ac0 := (S.out.box (X1, [.slice aq1 m.regs.length ak1, .int .i64 m.pc, .slice aq2 m.mem.length ak2, .int .i64 m.save, .bool m.lets, .bool m.waits, .int .i64 m.halt, .slice aq3 m.ins.length ak3, .slice aq4 m.outs.length ak4, .int .i64 m.count], m) List.mem_cons_self).1.r.cell 0 _ rfl
    have ac1 := (S.out.box (X1, [.slice aq1 m.regs.length ak1, .int .i64 m.pc, .slice aq2 m.mem.length ak2, .int .i64 m.save, .bool m.lets, .bool m.waits, .int .i64 m.halt, .slice aq3 m.ins.length ak3, .slice aq4 m.outs.length ak4, .int .i64 m.count], m) List.mem_cons_self).1.r.cell 1 _ rfl
    have ac2 := (S.out.box (X1, [.slice aq1 m.regs.length ak1, .int .i64 m.pc, .slice aq2 m.mem.length ak2, .int .i64 m.save, .bool m.lets, .bool m.waits, .int .i64 m.halt, .slice aq3 m.ins.length ak3, .slice aq4 m.outs.length ak4, .int .i64 m.count], m) List.mem_cons_self).1.r.cell 2 _ rfl
    have ac3 := (S.out.box (X1, [.slice aq1 m.regs.length ak1, .int .i64 m.pc, .slice aq2 m.mem.length ak2, .int .i64 m.save, .bool m.lets, .bool m.waits, .int .i64 m.halt, .slice aq3 m.ins.length ak3, .slice aq4 m.outs.length ak4, .int .i64 m.count], m) List.mem_cons_self).1.r.cell 3 _ rfl
    have ac4 := (S.out.box (X1, [.slice aq1 m.regs.length ak1, .int .i64 m.pc, .slice aq2 m.mem.length ak2, .int .i64 m.save, .bool m.lets, .bool m.waits, .int .i64 m.halt, .slice aq3 m.ins.length ak3, .slice aq4 m.outs.length ak4, .int .i64 m.count], m) List.mem_cons_self).1.r.cell 4 _ rfl
    have ac5 := (S.out.box (X1, [.slice aq1 m.regs.length ak1, .int .i64 m.pc, .slice aq2 m.mem.length ak2, .int .i64 m.save, .bool m.lets, .bool m.waits, .int .i64 m.halt, .slice aq3 m.ins.length ak3, .slice aq4 m.outs.length ak4, .int .i64 m.count], m) List.mem_cons_self).1.r.cell 5 _ rfl
    have ac6 := (S.out.box (X1, [.slice aq1 m.regs.length ak1, .int .i64 m.pc, .slice aq2 m.mem.length ak2, .int .i64 m.save, .bool m.lets, .bool m.waits, .int .i64 m.halt, .slice aq3 m.ins.length ak3, .slice aq4 m.outs.length ak4, .int .i64 m.count], m) List.mem_cons_self).1.r.cell 6 _ rfl
    have ac7 := (S.out.box (X1, [.slice aq1 m.regs.length ak1, .int .i64 m.pc, .slice aq2 m.mem.length ak2, .int .i64 m.save, .bool m.lets, .bool m.waits, .int .i64 m.halt, .slice aq3 m.ins.length ak3, .slice aq4 m.outs.length ak4, .int .i64 m.count], m) List.mem_cons_self).1.r.cell 7 _ rfl
    have ac8 := (S.out.box (X1, [.slice aq1 m.regs.length ak1, .int .i64 m.pc, .slice aq2 m.mem.length ak2, .int .i64 m.save, .bool m.lets, .bool m.waits, .int .i64 m.halt, .slice aq3 m.ins.length ak3, .slice aq4 m.outs.length ak4, .int .i64 m.count], m) List.mem_cons_self).1.r.cell 8 _ rfl
    have ac9 := (S.out.box (X1, [.slice aq1 m.regs.length ak1, .int .i64 m.pc, .slice aq2 m.mem.length ak2, .int .i64 m.save, .bool m.lets, .bool m.waits, .int .i64 m.halt, .slice aq3 m.ins.length ak3, .slice aq4 m.outs.length ak4, .int .i64 m.count], m) List.mem_cons_self).1.r.cell 9 _ rfl
    go_wp2_with fail
    refine (La.laOk _).mono ?_
    rintro e u ⟨rfl, rfl⟩
    have FIN := hide S.out.bw
    clear S
    go_wp2
    go_ret
    exact ⟨rfl, FIN.out⟩
  | true =>
    by_cases h4 : 400 < n
    · skip
      have ac0 := (S.out.box (X1, [.slice aq1 m.regs.length ak1, .int .i64 m.pc, .slice aq2 m.mem.length ak2, .int .i64 m.save, .bool m.lets, .bool m.waits, .int .i64 m.halt, .slice aq3 m.ins.length ak3, .slice aq4 m.outs.length ak4, .int .i64 m.count], m) List.mem_cons_self).1.r.cell 0 _ rfl
      have ac1 := (S.out.box (X1, [.slice aq1 m.regs.length ak1, .int .i64 m.pc, .slice aq2 m.mem.length ak2, .int .i64 m.save, .bool m.lets, .bool m.waits, .int .i64 m.halt, .slice aq3 m.ins.length ak3, .slice aq4 m.outs.length ak4, .int .i64 m.count], m) List.mem_cons_self).1.r.cell 1 _ rfl
      have ac2 := (S.out.box (X1, [.slice aq1 m.regs.length ak1, .int .i64 m.pc, .slice aq2 m.mem.length ak2, .int .i64 m.save, .bool m.lets, .bool m.waits, .int .i64 m.halt, .slice aq3 m.ins.length ak3, .slice aq4 m.outs.length ak4, .int .i64 m.count], m) List.mem_cons_self).1.r.cell 2 _ rfl
      have ac3 := (S.out.box (X1, [.slice aq1 m.regs.length ak1, .int .i64 m.pc, .slice aq2 m.mem.length ak2, .int .i64 m.save, .bool m.lets, .bool m.waits, .int .i64 m.halt, .slice aq3 m.ins.length ak3, .slice aq4 m.outs.length ak4, .int .i64 m.count], m) List.mem_cons_self).1.r.cell 3 _ rfl
      have ac4 := (S.out.box (X1, [.slice aq1 m.regs.length ak1, .int .i64 m.pc, .slice aq2 m.mem.length ak2, .int .i64 m.save, .bool m.lets, .bool m.waits, .int .i64 m.halt, .slice aq3 m.ins.length ak3, .slice aq4 m.outs.length ak4, .int .i64 m.count], m) List.mem_cons_self).1.r.cell 4 _ rfl
      have ac5 := (S.out.box (X1, [.slice aq1 m.regs.length ak1, .int .i64 m.pc, .slice aq2 m.mem.length ak2, .int .i64 m.save, .bool m.lets, .bool m.waits, .int .i64 m.halt, .slice aq3 m.ins.length ak3, .slice aq4 m.outs.length ak4, .int .i64 m.count], m) List.mem_cons_self).1.r.cell 5 _ rfl
      have ac6 := (S.out.box (X1, [.slice aq1 m.regs.length ak1, .int .i64 m.pc, .slice aq2 m.mem.length ak2, .int .i64 m.save, .bool m.lets, .bool m.waits, .int .i64 m.halt, .slice aq3 m.ins.length ak3, .slice aq4 m.outs.length ak4, .int .i64 m.count], m) List.mem_cons_self).1.r.cell 6 _ rfl
      have ac7 := (S.out.box (X1, [.slice aq1 m.regs.length ak1, .int .i64 m.pc, .slice aq2 m.mem.length ak2, .int .i64 m.save, .bool m.lets, .bool m.waits, .int .i64 m.halt, .slice aq3 m.ins.length ak3, .slice aq4 m.outs.length ak4, .int .i64 m.count], m) List.mem_cons_self).1.r.cell 7 _ rfl
      have ac8 := (S.out.box (X1, [.slice aq1 m.regs.length ak1, .int .i64 m.pc, .slice aq2 m.mem.length ak2, .int .i64 m.save, .bool m.lets, .bool m.waits, .int .i64 m.halt, .slice aq3 m.ins.length ak3, .slice aq4 m.outs.length ak4, .int .i64 m.count], m) List.mem_cons_self).1.r.cell 8 _ rfl
      have ac9 := (S.out.box (X1, [.slice aq1 m.regs.length ak1, .int .i64 m.pc, .slice aq2 m.mem.length ak2, .int .i64 m.save, .bool m.lets, .bool m.waits, .int .i64 m.halt, .slice aq3 m.ins.length ak3, .slice aq4 m.outs.length ak4, .int .i64 m.count], m) List.mem_cons_self).1.r.cell 9 _ rfl
      go_wp2_with fail
      refine (La.laOk _).mono ?_
      rintro e u ⟨rfl, rfl⟩
      have FIN := hide S.out.bw
      clear S
      go_wp2
      go_ret
      exact ⟨rfl, FIN.out⟩
    by_cases h5 : n < 0
    · skip
      have ac0 := (S.out.box (X1, [.slice aq1 m.regs.length ak1, .int .i64 m.pc, .slice aq2 m.mem.length ak2, .int .i64 m.save, .bool m.lets, .bool m.waits, .int .i64 m.halt, .slice aq3 m.ins.length ak3, .slice aq4 m.outs.length ak4, .int .i64 m.count], m) List.mem_cons_self).1.r.cell 0 _ rfl
      have ac1 := (S.out.box (X1, [.slice aq1 m.regs.length ak1, .int .i64 m.pc, .slice aq2 m.mem.length ak2, .int .i64 m.save, .bool m.lets, .bool m.waits, .int .i64 m.halt, .slice aq3 m.ins.length ak3, .slice aq4 m.outs.length ak4, .int .i64 m.count], m) List.mem_cons_self).1.r.cell 1 _ rfl
      have ac2 := (S.out.box (X1, [.slice aq1 m.regs.length ak1, .int .i64 m.pc, .slice aq2 m.mem.length ak2, .int .i64 m.save, .bool m.lets, .bool m.waits, .int .i64 m.halt, .slice aq3 m.ins.length ak3, .slice aq4 m.outs.length ak4, .int .i64 m.count], m) List.mem_cons_self).1.r.cell 2 _ rfl
      have ac3 := (S.out.box (X1, [.slice aq1 m.regs.length ak1, .int .i64 m.pc, .slice aq2 m.mem.length ak2, .int .i64 m.save, .bool m.lets, .bool m.waits, .int .i64 m.halt, .slice aq3 m.ins.length ak3, .slice aq4 m.outs.length ak4, .int .i64 m.count], m) List.mem_cons_self).1.r.cell 3 _ rfl
      have ac4 := (S.out.box (X1, [.slice aq1 m.regs.length ak1, .int .i64 m.pc, .slice aq2 m.mem.length ak2, .int .i64 m.save, .bool m.lets, .bool m.waits, .int .i64 m.halt, .slice aq3 m.ins.length ak3, .slice aq4 m.outs.length ak4, .int .i64 m.count], m) List.mem_cons_self).1.r.cell 4 _ rfl
      have ac5 := (S.out.box (X1, [.slice aq1 m.regs.length ak1, .int .i64 m.pc, .slice aq2 m.mem.length ak2, .int .i64 m.save, .bool m.lets, .bool m.waits, .int .i64 m.halt, .slice aq3 m.ins.length ak3, .slice aq4 m.outs.length ak4, .int .i64 m.count], m) List.mem_cons_self).1.r.cell 5 _ rfl
      have ac6 := (S.out.box (X1, [.slice aq1 m.regs.length ak1, .int .i64 m.pc, .slice aq2 m.mem.length ak2, .int .i64 m.save, .bool m.lets, .bool m.waits, .int .i64 m.halt, .slice aq3 m.ins.length ak3, .slice aq4 m.outs.length ak4, .int .i64 m.count], m) List.mem_cons_self).1.r.cell 6 _ rfl
      have ac7 := (S.out.box (X1, [.slice aq1 m.regs.length ak1, .int .i64 m.pc, .slice aq2 m.mem.length ak2, .int .i64 m.save, .bool m.lets, .bool m.waits, .int .i64 m.halt, .slice aq3 m.ins.length ak3, .slice aq4 m.outs.length ak4, .int .i64 m.count], m) List.mem_cons_self).1.r.cell 7 _ rfl
      have ac8 := (S.out.box (X1, [.slice aq1 m.regs.length ak1, .int .i64 m.pc, .slice aq2 m.mem.length ak2, .int .i64 m.save, .bool m.lets, .bool m.waits, .int .i64 m.halt, .slice aq3 m.ins.length ak3, .slice aq4 m.outs.length ak4, .int .i64 m.count], m) List.mem_cons_self).1.r.cell 8 _ rfl
      have ac9 := (S.out.box (X1, [.slice aq1 m.regs.length ak1, .int .i64 m.pc, .slice aq2 m.mem.length ak2, .int .i64 m.save, .bool m.lets, .bool m.waits, .int .i64 m.halt, .slice aq3 m.ins.length ak3, .slice aq4 m.outs.length ak4, .int .i64 m.count], m) List.mem_cons_self).1.r.cell 9 _ rfl
      go_wp2_with fail
      refine (La.laOk _).mono ?_
      rintro e u ⟨rfl, rfl⟩
      have FIN := hide S.out.bw
      clear S
      go_wp2
      go_ret
      exact ⟨rfl, FIN.out⟩
    obtain ⟨N, rfl⟩ : ∃ N : Nat, n = N := ⟨n.toNat, by omega⟩
    have N4 : N ≤ 400 := by omega
    have CB := (okM_of EO.out).c
    obtain ⟨x, ex⟩ : ∃ x, runOf m xs (N : Int) = x := ⟨_, rfl⟩
    have EX := hide ex
    have EX2 : Hid (runOf m (xs ++ [m.count + (N : Int), m.count - 1]) (N : Int) = x) := show _ = _ by rw [late_same EO.out xs N4]; exact ex
    clear ex
    have hw1 : IntKind.i64.wrap (m.count + (N : Int)) = m.count + (N : Int) := IntWalk.i64_in _ ⟨by omega, by omega⟩
    have hw2 : IntKind.i64.wrap (m.count - 1) = m.count - 1 := IntWalk.i64_in _ ⟨by omega, by omega⟩
    have ac0 := (S.out.box (X1, [.slice aq1 m.regs.length ak1, .int .i64 m.pc, .slice aq2 m.mem.length ak2, .int .i64 m.save, .bool m.lets, .bool m.waits, .int .i64 m.halt, .slice aq3 m.ins.length ak3, .slice aq4 m.outs.length ak4, .int .i64 m.count], m) List.mem_cons_self).1.r.cell 0 _ rfl
    have ac1 := (S.out.box (X1, [.slice aq1 m.regs.length ak1, .int .i64 m.pc, .slice aq2 m.mem.length ak2, .int .i64 m.save, .bool m.lets, .bool m.waits, .int .i64 m.halt, .slice aq3 m.ins.length ak3, .slice aq4 m.outs.length ak4, .int .i64 m.count], m) List.mem_cons_self).1.r.cell 1 _ rfl
    have ac2 := (S.out.box (X1, [.slice aq1 m.regs.length ak1, .int .i64 m.pc, .slice aq2 m.mem.length ak2, .int .i64 m.save, .bool m.lets, .bool m.waits, .int .i64 m.halt, .slice aq3 m.ins.length ak3, .slice aq4 m.outs.length ak4, .int .i64 m.count], m) List.mem_cons_self).1.r.cell 2 _ rfl
    have ac3 := (S.out.box (X1, [.slice aq1 m.regs.length ak1, .int .i64 m.pc, .slice aq2 m.mem.length ak2, .int .i64 m.save, .bool m.lets, .bool m.waits, .int .i64 m.halt, .slice aq3 m.ins.length ak3, .slice aq4 m.outs.length ak4, .int .i64 m.count], m) List.mem_cons_self).1.r.cell 3 _ rfl
    have ac4 := (S.out.box (X1, [.slice aq1 m.regs.length ak1, .int .i64 m.pc, .slice aq2 m.mem.length ak2, .int .i64 m.save, .bool m.lets, .bool m.waits, .int .i64 m.halt, .slice aq3 m.ins.length ak3, .slice aq4 m.outs.length ak4, .int .i64 m.count], m) List.mem_cons_self).1.r.cell 4 _ rfl
    have ac5 := (S.out.box (X1, [.slice aq1 m.regs.length ak1, .int .i64 m.pc, .slice aq2 m.mem.length ak2, .int .i64 m.save, .bool m.lets, .bool m.waits, .int .i64 m.halt, .slice aq3 m.ins.length ak3, .slice aq4 m.outs.length ak4, .int .i64 m.count], m) List.mem_cons_self).1.r.cell 5 _ rfl
    have ac6 := (S.out.box (X1, [.slice aq1 m.regs.length ak1, .int .i64 m.pc, .slice aq2 m.mem.length ak2, .int .i64 m.save, .bool m.lets, .bool m.waits, .int .i64 m.halt, .slice aq3 m.ins.length ak3, .slice aq4 m.outs.length ak4, .int .i64 m.count], m) List.mem_cons_self).1.r.cell 6 _ rfl
    have ac7 := (S.out.box (X1, [.slice aq1 m.regs.length ak1, .int .i64 m.pc, .slice aq2 m.mem.length ak2, .int .i64 m.save, .bool m.lets, .bool m.waits, .int .i64 m.halt, .slice aq3 m.ins.length ak3, .slice aq4 m.outs.length ak4, .int .i64 m.count], m) List.mem_cons_self).1.r.cell 7 _ rfl
    have ac8 := (S.out.box (X1, [.slice aq1 m.regs.length ak1, .int .i64 m.pc, .slice aq2 m.mem.length ak2, .int .i64 m.save, .bool m.lets, .bool m.waits, .int .i64 m.halt, .slice aq3 m.ins.length ak3, .slice aq4 m.outs.length ak4, .int .i64 m.count], m) List.mem_cons_self).1.r.cell 8 _ rfl
    have ac9 := (S.out.box (X1, [.slice aq1 m.regs.length ak1, .int .i64 m.pc, .slice aq2 m.mem.length ak2, .int .i64 m.save, .bool m.lets, .bool m.waits, .int .i64 m.halt, .slice aq3 m.ins.length ak3, .slice aq4 m.outs.length ak4, .int .i64 m.count], m) List.mem_cons_self).1.r.cell 9 _ rfl
    go_wp2_with fail
    clear ac0 ac1 ac2 ac3 ac4 ac5 ac6 ac7 ac8 ac9
    go_cut [6] (fun s6 wx => ∃ (g k B : Nat), s6 = .slice (some ⟨g, 0, none⟩) (xs.length + 2) k ∧ Hid (Row wx B (.slice (some ⟨g, 0, none⟩) (xs.length + 2) k) (xs ++ [m.count + (N : Int), m.count - 1])) ∧ Hid (Sit w [(X1, [.slice aq1 m.regs.length ak1, .int .i64 m.pc, .slice aq2 m.mem.length ak2, .int .i64 m.save, .bool m.lets, .bool m.waits, .int .i64 m.halt, .slice aq3 m.ins.length ak3, .slice aq4 m.outs.length ak4, .int .i64 m.count], m)] [(Bi, (.slice qi li ci), xs)] wx))
    case first =>
      refine (wpIn_wide (n := 0)).1 ?_
      have S2 := hide S.out.drew
      clear S
      have S := S2
      clear S2
      refine PhaseIn.region (S := fun v => Sit w [(X1, [.slice aq1 m.regs.length ak1, .int .i64 m.pc, .slice aq2 m.mem.length ak2, .int .i64 m.save, .bool m.lets, .bool m.waits, .int .i64 m.halt, .slice aq3 m.ins.length ak3, .slice aq4 m.outs.length ak4, .int .i64 m.count], m)] [(Bi, (.slice qi li ci), xs)] v) 13 (by kernel_rfl) ?_
      generalize wv2.drew = wv3 at *
      have hHeld := S.out
      clear S
      have SB := hide hHeld
      refine PhaseIn.takeD (i := 3) (v := ?_) [3, 4, 6, 10, 11, 12] 31 rfl (by rfl) (by kernel_rfl) (by kernel_rfl) (by kernel_rfl) (by kernel_rfl) (by kernel_rfl) (fun _ _ _ h => h) (Or.inl ⟨by kernel_rfl, ?_⟩) hHeld ?_
      rotate_left
      · intro w' hSw
        (try dsimp only at hSw)
        go_simp
        first | done | with_reducible rfl
      try simp only [Act.put, List.setIfInBounds_toArray, List.set]
      refine PhaseIn.takeD (i := 4) (v := ?_) [4, 6, 10, 11, 12] 32 rfl (by rfl) (by kernel_rfl) (by kernel_rfl) (by kernel_rfl) (by kernel_rfl) (by kernel_rfl) (fun _ _ _ h => h) (Or.inl ⟨by kernel_rfl, ?_⟩) hHeld ?_
      rotate_left
      · intro w' hSw
        (try dsimp only at hSw)
        have z9 := (hSw.box (X1, [.slice aq1 m.regs.length ak1, .int .i64 m.pc, .slice aq2 m.mem.length ak2, .int .i64 m.save, .bool m.lets, .bool m.waits, .int .i64 m.halt, .slice aq3 m.ins.length ak3, .slice aq4 m.outs.length ak4, .int .i64 m.count], m) List.mem_cons_self).1.r.cell 9 _ rfl
        go_simp
        first | done | with_reducible rfl
      try simp only [Act.put, List.setIfInBounds_toArray, List.set]
      refine PhaseIn.takeD (i := 5) (v := ?_) [5, 6, 10, 11, 12] 33 rfl (by rfl) (by kernel_rfl) (by kernel_rfl) (by kernel_rfl) (by kernel_rfl) (by kernel_rfl) (fun _ _ _ h => h) (Or.inl ⟨by kernel_rfl, ?_⟩) hHeld ?_
      rotate_left
      · intro w' hSw
        (try dsimp only at hSw)
        go_simp
        first | done | with_reducible rfl
      try simp only [Act.put, List.setIfInBounds_toArray, List.set]
      refine PhaseIn.takeD (i := 6) (v := ?_) [6, 10, 11, 12] 34 rfl (by rfl) (by kernel_rfl) (by kernel_rfl) (by kernel_rfl) (by kernel_rfl) (by kernel_rfl) (fun _ _ _ h => h) (Or.inl ⟨by kernel_rfl, ?_⟩) hHeld ?_
      rotate_left
      · intro w' hSw
        (try dsimp only at hSw)
        go_simp
        first | done | with_reducible rfl
      try simp only [Act.put, List.setIfInBounds_toArray, List.set]
      refine PhaseIn.takeD (i := 7) (v := ?_) [7, 8, 9, 10, 11, 12] 35 rfl (by rfl) (by kernel_rfl) (by kernel_rfl) (by kernel_rfl) (by kernel_rfl) (by kernel_rfl) (fun _ _ _ h => h) (Or.inl ⟨by kernel_rfl, ?_⟩) hHeld ?_
      rotate_left
      · intro w' hSw
        (try dsimp only at hSw)
        go_simp
        first | done | with_reducible rfl
      try simp only [Act.put, List.setIfInBounds_toArray, List.set]
      refine PhaseIn.takeD (i := 8) (v := ?_) [8, 9, 10, 11, 12] 36 rfl (by rfl) (by kernel_rfl) (by kernel_rfl) (by kernel_rfl) (by kernel_rfl) (by kernel_rfl) (fun _ _ _ h => h) (Or.inl ⟨by kernel_rfl, ?_⟩) hHeld ?_
      rotate_left
      · intro w' hSw
        (try dsimp only at hSw)
        have z9 := (hSw.box (X1, [.slice aq1 m.regs.length ak1, .int .i64 m.pc, .slice aq2 m.mem.length ak2, .int .i64 m.save, .bool m.lets, .bool m.waits, .int .i64 m.halt, .slice aq3 m.ins.length ak3, .slice aq4 m.outs.length ak4, .int .i64 m.count], m) List.mem_cons_self).1.r.cell 9 _ rfl
        go_simp
        first | done | with_reducible rfl
      try simp only [Act.put, List.setIfInBounds_toArray, List.set]
      refine PhaseIn.takeD (i := 9) (v := ?_) [9, 10, 11, 12] 37 rfl (by rfl) (by kernel_rfl) (by kernel_rfl) (by kernel_rfl) (by kernel_rfl) (by kernel_rfl) (fun _ _ _ h => h) (Or.inl ⟨by kernel_rfl, ?_⟩) hHeld ?_
      rotate_left
      · intro w' hSw
        (try dsimp only at hSw)
        go_simp
        first | done | with_reducible rfl
      try simp only [Act.put, List.setIfInBounds_toArray, List.set]
      refine PhaseIn.takeD (i := 1) (v := ?_) [1, 2, 11, 12] 29 rfl (by rfl) (by kernel_rfl) (by kernel_rfl) (by kernel_rfl) (by kernel_rfl) (by kernel_rfl) (fun _ _ _ h => h) (Or.inl ⟨by kernel_rfl, ?_⟩) hHeld ?_
      rotate_left
      · intro w' hSw
        (try dsimp only at hSw)
        go_simp
        first | done | with_reducible rfl
      try simp only [Act.put, List.setIfInBounds_toArray, List.set]
      have BB := hide (Below.refl wv3.heap.size wv3)
      clear hHeld
      refine PhaseIn.two (i := 0) (j := 10) (by kernel_rfl) rfl rfl (by kernel_rfl) (by kernel_rfl) (fun K hK => ?_) (fun K hK => ?_)
      · skip
        unfold Oper.wpIn
        refine ⟨fun _ _ => trivial, ?_⟩
        go_simp
        have GH := hide (heap_new wv3 3)
        obtain ⟨G, hG⟩ : ∃ G, wv3.heap.size = G := ⟨_, rfl⟩
        have GL : Hid (wv3.heap.size ≤ G) := by have := BB.out.size; show _ ≤ _; omega
        replace BB := hide (BB.out.alloc BB.out.size (.cells #[] 3))
        refine hK _ _ (fun _ => SB.out.below BB.out) ?_
        clear hK K
        try simp only [Act.put, List.setIfInBounds_toArray, List.set]
        generalize wv3.alloc (.cells #[] 3) = wv4 at GH BB ⊢
        rw [hG] at GH
        rw [hG]
        clear hG
        refine PhaseIn.two (i := 2) (j := 10) (by kernel_rfl) rfl rfl (by kernel_rfl) (by kernel_rfl) (fun K hK => ?_) (fun K hK => ?_)
        · skip
          have RI0 : Row wv4 Bi (.slice qi li ci) xs := ((SB.out.below BB.out).row (Bi, (.slice qi li ci), xs) List.mem_cons_self)
          obtain ⟨g1, k1, w1, hrun, OWn, TT⟩ := run_copy (ty := 23) GH.out RI0 (show xs.length ≤ 1000000 by have := HXL.out; omega)
          have OW := hide OWn
          clear OWn RI0
          refine Push.push_in _ _ rfl rfl rfl hrun ?_
          replace BB := hide (BB.out.trans (TT.below GL.out BB.out.size))
          clear hrun TT GH
          refine hK _ _ (fun _ => SB.out.below BB.out) ?_
          clear hK K
          try simp only [Act.put, List.setIfInBounds_toArray, List.set]
          refine PhaseIn.one (i := 10) (by kernel_rfl) rfl (by kernel_rfl) (fun K hK => ?_)
          unfold Oper.wpIn
          refine ⟨fun _ _ => trivial, ?_⟩
          go_simp
          have c0 : Hid ((w1.alloc (.cells #[.int .i64 (m.count + (N : Int)), .int .i64 (m.count - 1)] 3)).cell? ⟨w1.heap.size, 0, none⟩ = some (.int .i64 (m.count + (N : Int)))) := by show _ = _; rw [World.cell?_alloc_new]; rfl
          have c1 : Hid ((w1.alloc (.cells #[.int .i64 (m.count + (N : Int)), .int .i64 (m.count - 1)] 3)).cell? ⟨w1.heap.size, 1, none⟩ = some (.int .i64 (m.count - 1))) := by show _ = _; rw [World.cell?_alloc_new]; rfl
          replace OW := hide (Flat.OwnF.below OW.out (alloc_below w1 (.cells #[.int .i64 (m.count + (N : Int)), .int .i64 (m.count - 1)] 3)))
          replace BB := hide (BB.out.alloc BB.out.size (.cells #[.int .i64 (m.count + (N : Int)), .int .i64 (m.count - 1)] 3))
          refine hK _ _ (fun _ => SB.out.below BB.out) ?_
          clear hK K
          try simp only [Act.put, List.setIfInBounds_toArray, List.set]
          generalize w1.alloc (.cells #[.int .i64 (m.count + (N : Int)), .int .i64 (m.count - 1)] 3) = wv5 at c0 c1 BB OW ⊢
          obtain ⟨Z, hZ⟩ : ∃ Z, w1.heap.size = Z := ⟨_, rfl⟩
          rw [hZ] at c0 c1
          rw [hZ]
          clear hZ
          refine PhaseIn.one (i := 11) (by kernel_rfl) rfl (by kernel_rfl) (fun K hK => ?_)
          have LG : G ≤ wv5.heap.size := by
            rcases Flat.OwnF.q_lt OW.out rfl with ⟨h1, h2⟩
            omega
          obtain ⟨g2, k2, w2, T2, hrun, O2, TT, hT⟩ := PushM.pushN (ty := 23) OW.out rfl (by have := HXL.out; omega) LG Z 2 2 [m.count + (N : Int), m.count - 1] rfl (by omega) (by omega) (fun j z hz => by
            match j, hz with
            | 0, hz => cases hz; exact c0.out
            | 1, hz => cases hz; exact c1.out
            | j + 2, hz => simp at hz)
          obtain ⟨B2, hw, _⟩ := Flat.OwnF.wrow O2 _ (Nat.le_refl _)
          have RW2 := hide (Blk.row_of_flat hw).row
          refine Push.push_in _ _ rfl rfl rfl hrun ?_
          replace BB := hide (BB.out.trans (TT.below (by have := GL.out; omega) BB.out.size))
          clear hrun TT O2 hw OW c0 c1
          refine hK _ _ (fun _ => SB.out.below BB.out) ?_
          clear hK K
          simp only [List.getElem_toArray, List.getElem_cons_succ, List.getElem_cons_zero, Act.put, List.setIfInBounds_toArray, List.set]
          have hHeld := SB.out.below BB.out
          refine PhaseIn.takeD (i := 12) (v := ?_) [12] 6 rfl (by rfl) (by kernel_rfl) (by kernel_rfl) (by kernel_rfl) (by kernel_rfl) (by kernel_rfl) (fun _ _ _ h => h) (Or.inl ⟨by kernel_rfl, ?_⟩) hHeld ?_
          rotate_left
          · intro w' hSw
            (try dsimp only at hSw)
            go_simp
            first | done | with_reducible rfl
          try simp only [Act.put, List.setIfInBounds_toArray, List.set]
          refine PhaseIn.done (by kernel_rfl) ?_ _
          have SF := hide hHeld
          clear hHeld
          go_wp2_with fail
          go_meet
          exact ⟨g2, k2, B2, rfl, RW2, SF⟩
        · skip
          unfold Oper.wpIn
          refine ⟨fun _ _ => trivial, ?_⟩
          go_simp
          have c0 : Hid ((wv4.alloc (.cells #[.int .i64 (m.count + (N : Int)), .int .i64 (m.count - 1)] 3)).cell? ⟨wv4.heap.size, 0, none⟩ = some (.int .i64 (m.count + (N : Int)))) := by show _ = _; rw [World.cell?_alloc_new]; rfl
          have c1 : Hid ((wv4.alloc (.cells #[.int .i64 (m.count + (N : Int)), .int .i64 (m.count - 1)] 3)).cell? ⟨wv4.heap.size, 1, none⟩ = some (.int .i64 (m.count - 1))) := by show _ = _; rw [World.cell?_alloc_new]; rfl
          have ZG : Hid (wv4.heap.size ≠ G) := by have := heap_lt GH.out; show _ ≠ _; omega
          replace GH := hide (heap_keep GH.out (.cells #[.int .i64 (m.count + (N : Int)), .int .i64 (m.count - 1)] 3))
          replace BB := hide (BB.out.alloc BB.out.size (.cells #[.int .i64 (m.count + (N : Int)), .int .i64 (m.count - 1)] 3))
          refine hK _ _ (fun _ => SB.out.below BB.out) ?_
          clear hK K
          try simp only [Act.put, List.setIfInBounds_toArray, List.set]
          generalize wv4.alloc (.cells #[.int .i64 (m.count + (N : Int)), .int .i64 (m.count - 1)] 3) = wv6 at c0 c1 BB GH ⊢
          obtain ⟨Z, hZ⟩ : ∃ Z, wv4.heap.size = Z := ⟨_, rfl⟩
          rw [hZ] at c0 c1 ZG
          rw [hZ]
          clear hZ
          refine PhaseIn.one (i := 2) (by kernel_rfl) rfl (by kernel_rfl) (fun K hK => ?_)
          have RI0 : Row wv6 Bi (.slice qi li ci) xs := ((SB.out.below BB.out).row (Bi, (.slice qi li ci), xs) List.mem_cons_self)
          obtain ⟨g1, k1, w1, hrun, OWn, TT⟩ := run_copy (ty := 23) GH.out RI0 (show xs.length ≤ 1000000 by have := HXL.out; omega)
          have OW := hide OWn
          clear OWn RI0
          refine Push.push_in _ _ rfl rfl rfl hrun ?_
          replace c0 := hide ((TT.cell (p := ⟨Z, 0, none⟩) (World.block_lt_of_cell? _ _ c0.out) ZG.out).trans c0.out)
          replace c1 := hide ((TT.cell (p := ⟨Z, 1, none⟩) (World.block_lt_of_cell? _ _ c1.out) ZG.out).trans c1.out)
          replace BB := hide (BB.out.trans (TT.below GL.out BB.out.size))
          clear hrun TT GH
          refine hK _ _ (fun _ => SB.out.below BB.out) ?_
          clear hK K
          try simp only [Act.put, List.setIfInBounds_toArray, List.set]
          refine PhaseIn.one (i := 11) (by kernel_rfl) rfl (by kernel_rfl) (fun K hK => ?_)
          have LG : G ≤ w1.heap.size := by
            rcases Flat.OwnF.q_lt OW.out rfl with ⟨h1, h2⟩
            omega
          obtain ⟨g2, k2, w2, T2, hrun, O2, TT, hT⟩ := PushM.pushN (ty := 23) OW.out rfl (by have := HXL.out; omega) LG Z 2 2 [m.count + (N : Int), m.count - 1] rfl (by omega) (by omega) (fun j z hz => by
            match j, hz with
            | 0, hz => cases hz; exact c0.out
            | 1, hz => cases hz; exact c1.out
            | j + 2, hz => simp at hz)
          obtain ⟨B2, hw, _⟩ := Flat.OwnF.wrow O2 _ (Nat.le_refl _)
          have RW2 := hide (Blk.row_of_flat hw).row
          refine Push.push_in _ _ rfl rfl rfl hrun ?_
          replace BB := hide (BB.out.trans (TT.below (by have := GL.out; omega) BB.out.size))
          clear hrun TT O2 hw OW c0 c1
          refine hK _ _ (fun _ => SB.out.below BB.out) ?_
          clear hK K
          simp only [List.getElem_toArray, List.getElem_cons_succ, List.getElem_cons_zero, Act.put, List.setIfInBounds_toArray, List.set]
          have hHeld := SB.out.below BB.out
          refine PhaseIn.takeD (i := 12) (v := ?_) [12] 6 rfl (by rfl) (by kernel_rfl) (by kernel_rfl) (by kernel_rfl) (by kernel_rfl) (by kernel_rfl) (fun _ _ _ h => h) (Or.inl ⟨by kernel_rfl, ?_⟩) hHeld ?_
          rotate_left
          · intro w' hSw
            (try dsimp only at hSw)
            go_simp
            first | done | with_reducible rfl
          try simp only [Act.put, List.setIfInBounds_toArray, List.set]
          refine PhaseIn.done (by kernel_rfl) ?_ _
          have SF := hide hHeld
          clear hHeld
          go_wp2_with fail
          go_meet
          exact ⟨g2, k2, B2, rfl, RW2, SF⟩
      · skip
        unfold Oper.wpIn
        refine ⟨fun _ _ => trivial, ?_⟩
        go_simp
        have c0 : Hid ((wv3.alloc (.cells #[.int .i64 (m.count + (N : Int)), .int .i64 (m.count - 1)] 3)).cell? ⟨wv3.heap.size, 0, none⟩ = some (.int .i64 (m.count + (N : Int)))) := by show _ = _; rw [World.cell?_alloc_new]; rfl
        have c1 : Hid ((wv3.alloc (.cells #[.int .i64 (m.count + (N : Int)), .int .i64 (m.count - 1)] 3)).cell? ⟨wv3.heap.size, 1, none⟩ = some (.int .i64 (m.count - 1))) := by show _ = _; rw [World.cell?_alloc_new]; rfl
        replace BB := hide (BB.out.alloc BB.out.size (.cells #[.int .i64 (m.count + (N : Int)), .int .i64 (m.count - 1)] 3))
        refine hK _ _ (fun _ => SB.out.below BB.out) ?_
        clear hK K
        try simp only [Act.put, List.setIfInBounds_toArray, List.set]
        generalize wv3.alloc (.cells #[.int .i64 (m.count + (N : Int)), .int .i64 (m.count - 1)] 3) = wv7 at c0 c1 BB ⊢
        obtain ⟨Z, hZ⟩ : ∃ Z, wv3.heap.size = Z := ⟨_, rfl⟩
        rw [hZ] at c0 c1
        rw [hZ]
        clear hZ
        refine PhaseIn.one (i := 0) (by kernel_rfl) rfl (by kernel_rfl) (fun K hK => ?_)
        unfold Oper.wpIn
        refine ⟨fun _ _ => trivial, ?_⟩
        go_simp
        have GH := hide (heap_new wv7 3)
        obtain ⟨G, hG⟩ : ∃ G, wv7.heap.size = G := ⟨_, rfl⟩
        have GL : Hid (wv3.heap.size ≤ G) := by have := BB.out.size; show _ ≤ _; omega
        have ZG : Hid (Z ≠ G) := by have := World.block_lt_of_cell? _ _ c0.out; simp at this; show Z ≠ _; omega
        replace c0 := hide (cell_below (alloc_below wv7 (.cells #[] 3)) c0.out)
        replace c1 := hide (cell_below (alloc_below wv7 (.cells #[] 3)) c1.out)
        replace BB := hide (BB.out.alloc BB.out.size (.cells #[] 3))
        refine hK _ _ (fun _ => SB.out.below BB.out) ?_
        clear hK K
        try simp only [Act.put, List.setIfInBounds_toArray, List.set]
        generalize wv7.alloc (.cells #[] 3) = wv8 at GH BB c0 c1 ⊢
        rw [hG] at GH
        rw [hG]
        clear hG
        refine PhaseIn.one (i := 2) (by kernel_rfl) rfl (by kernel_rfl) (fun K hK => ?_)
        have RI0 : Row wv8 Bi (.slice qi li ci) xs := ((SB.out.below BB.out).row (Bi, (.slice qi li ci), xs) List.mem_cons_self)
        obtain ⟨g1, k1, w1, hrun, OWn, TT⟩ := run_copy (ty := 23) GH.out RI0 (show xs.length ≤ 1000000 by have := HXL.out; omega)
        have OW := hide OWn
        clear OWn RI0
        refine Push.push_in _ _ rfl rfl rfl hrun ?_
        replace c0 := hide ((TT.cell (p := ⟨Z, 0, none⟩) (World.block_lt_of_cell? _ _ c0.out) ZG.out).trans c0.out)
        replace c1 := hide ((TT.cell (p := ⟨Z, 1, none⟩) (World.block_lt_of_cell? _ _ c1.out) ZG.out).trans c1.out)
        replace BB := hide (BB.out.trans (TT.below GL.out BB.out.size))
        clear hrun TT GH
        refine hK _ _ (fun _ => SB.out.below BB.out) ?_
        clear hK K
        try simp only [Act.put, List.setIfInBounds_toArray, List.set]
        refine PhaseIn.one (i := 11) (by kernel_rfl) rfl (by kernel_rfl) (fun K hK => ?_)
        have LG : G ≤ w1.heap.size := by
          rcases Flat.OwnF.q_lt OW.out rfl with ⟨h1, h2⟩
          omega
        obtain ⟨g2, k2, w2, T2, hrun, O2, TT, hT⟩ := PushM.pushN (ty := 23) OW.out rfl (by have := HXL.out; omega) LG Z 2 2 [m.count + (N : Int), m.count - 1] rfl (by omega) (by omega) (fun j z hz => by
          match j, hz with
          | 0, hz => cases hz; exact c0.out
          | 1, hz => cases hz; exact c1.out
          | j + 2, hz => simp at hz)
        obtain ⟨B2, hw, _⟩ := Flat.OwnF.wrow O2 _ (Nat.le_refl _)
        have RW2 := hide (Blk.row_of_flat hw).row
        refine Push.push_in _ _ rfl rfl rfl hrun ?_
        replace BB := hide (BB.out.trans (TT.below (by have := GL.out; omega) BB.out.size))
        clear hrun TT O2 hw OW c0 c1
        refine hK _ _ (fun _ => SB.out.below BB.out) ?_
        clear hK K
        simp only [List.getElem_toArray, List.getElem_cons_succ, List.getElem_cons_zero, Act.put, List.setIfInBounds_toArray, List.set]
        have hHeld := SB.out.below BB.out
        refine PhaseIn.takeD (i := 12) (v := ?_) [12] 6 rfl (by rfl) (by kernel_rfl) (by kernel_rfl) (by kernel_rfl) (by kernel_rfl) (by kernel_rfl) (fun _ _ _ h => h) (Or.inl ⟨by kernel_rfl, ?_⟩) hHeld ?_
        rotate_left
        · intro w' hSw
          (try dsimp only at hSw)
          go_simp
          first | done | with_reducible rfl
        try simp only [Act.put, List.setIfInBounds_toArray, List.set]
        refine PhaseIn.done (by kernel_rfl) ?_ _
        have SF := hide hHeld
        clear hHeld
        go_wp2_with fail
        go_meet
        exact ⟨g2, k2, B2, rfl, RW2, SF⟩
    case rest =>
    obtain ⟨g, k, B, rfl, RM, SM⟩ := hcut
    clear S
    have S : Hid (Sit w [(X1, [.slice aq1 m.regs.length ak1, .int .i64 m.pc, .slice aq2 m.mem.length ak2, .int .i64 m.save, .bool m.lets, .bool m.waits, .int .i64 m.halt, .slice aq3 m.ins.length ak3, .slice aq4 m.outs.length ak4, .int .i64 m.count], m)] [(Bi, (.slice qi li ci), xs), (B, (.slice (some ⟨g, 0, none⟩) (xs.length + 2) k), (xs ++ [m.count + (N : Int), m.count - 1]))] wc) := ⟨SM.out.bw, SM.out.box, fun r hr => by
      rcases List.mem_cons.1 hr with rfl | hr
      · exact SM.out.row _ List.mem_cons_self
      · rcases List.mem_cons.1 hr with rfl | hr
        · exact RM.out
        · exact absurd hr (by simp)⟩
    clear SM RM hw1 hw2
    go_wp2_with fail
    refine (wpIn_wide (n := 0)).1 ?_
    have S2 := hide S.out.drew
    clear S
    have S := S2
    clear S2
    refine PhaseIn.region (S := fun v => Sit w [(X1, [.slice aq1 m.regs.length ak1, .int .i64 m.pc, .slice aq2 m.mem.length ak2, .int .i64 m.save, .bool m.lets, .bool m.waits, .int .i64 m.halt, .slice aq3 m.ins.length ak3, .slice aq4 m.outs.length ak4, .int .i64 m.count], m)] [(Bi, (.slice qi li ci), xs), (B, (.slice (some ⟨g, 0, none⟩) (xs.length + 2) k), (xs ++ [m.count + (N : Int), m.count - 1]))] v) 10 (by kernel_rfl) ?_
    generalize wc.drew = wv9 at *
    have hHeld := S.out
    clear S
    refine PhaseIn.takeD (i := 0) (v := ?_) [0, 3, 7, 8, 9] 40 rfl (by rfl) (by kernel_rfl) (by kernel_rfl) (by kernel_rfl) (by kernel_rfl) (by kernel_rfl) (fun _ _ _ h => h) (Or.inl ⟨by kernel_rfl, ?_⟩) hHeld ?_
    rotate_left
    · intro w' hSw
      (try dsimp only at hSw)
      have z0 := (hSw.box (X1, [.slice aq1 m.regs.length ak1, .int .i64 m.pc, .slice aq2 m.mem.length ak2, .int .i64 m.save, .bool m.lets, .bool m.waits, .int .i64 m.halt, .slice aq3 m.ins.length ak3, .slice aq4 m.outs.length ak4, .int .i64 m.count], m) List.mem_cons_self).1.r.cell 0 _ rfl
      have z1 := (hSw.box (X1, [.slice aq1 m.regs.length ak1, .int .i64 m.pc, .slice aq2 m.mem.length ak2, .int .i64 m.save, .bool m.lets, .bool m.waits, .int .i64 m.halt, .slice aq3 m.ins.length ak3, .slice aq4 m.outs.length ak4, .int .i64 m.count], m) List.mem_cons_self).1.r.cell 1 _ rfl
      have z2 := (hSw.box (X1, [.slice aq1 m.regs.length ak1, .int .i64 m.pc, .slice aq2 m.mem.length ak2, .int .i64 m.save, .bool m.lets, .bool m.waits, .int .i64 m.halt, .slice aq3 m.ins.length ak3, .slice aq4 m.outs.length ak4, .int .i64 m.count], m) List.mem_cons_self).1.r.cell 2 _ rfl
      have z3 := (hSw.box (X1, [.slice aq1 m.regs.length ak1, .int .i64 m.pc, .slice aq2 m.mem.length ak2, .int .i64 m.save, .bool m.lets, .bool m.waits, .int .i64 m.halt, .slice aq3 m.ins.length ak3, .slice aq4 m.outs.length ak4, .int .i64 m.count], m) List.mem_cons_self).1.r.cell 3 _ rfl
      have z4 := (hSw.box (X1, [.slice aq1 m.regs.length ak1, .int .i64 m.pc, .slice aq2 m.mem.length ak2, .int .i64 m.save, .bool m.lets, .bool m.waits, .int .i64 m.halt, .slice aq3 m.ins.length ak3, .slice aq4 m.outs.length ak4, .int .i64 m.count], m) List.mem_cons_self).1.r.cell 4 _ rfl
      have z5 := (hSw.box (X1, [.slice aq1 m.regs.length ak1, .int .i64 m.pc, .slice aq2 m.mem.length ak2, .int .i64 m.save, .bool m.lets, .bool m.waits, .int .i64 m.halt, .slice aq3 m.ins.length ak3, .slice aq4 m.outs.length ak4, .int .i64 m.count], m) List.mem_cons_self).1.r.cell 5 _ rfl
      have z6 := (hSw.box (X1, [.slice aq1 m.regs.length ak1, .int .i64 m.pc, .slice aq2 m.mem.length ak2, .int .i64 m.save, .bool m.lets, .bool m.waits, .int .i64 m.halt, .slice aq3 m.ins.length ak3, .slice aq4 m.outs.length ak4, .int .i64 m.count], m) List.mem_cons_self).1.r.cell 6 _ rfl
      have z7 := (hSw.box (X1, [.slice aq1 m.regs.length ak1, .int .i64 m.pc, .slice aq2 m.mem.length ak2, .int .i64 m.save, .bool m.lets, .bool m.waits, .int .i64 m.halt, .slice aq3 m.ins.length ak3, .slice aq4 m.outs.length ak4, .int .i64 m.count], m) List.mem_cons_self).1.r.cell 7 _ rfl
      have z8 := (hSw.box (X1, [.slice aq1 m.regs.length ak1, .int .i64 m.pc, .slice aq2 m.mem.length ak2, .int .i64 m.save, .bool m.lets, .bool m.waits, .int .i64 m.halt, .slice aq3 m.ins.length ak3, .slice aq4 m.outs.length ak4, .int .i64 m.count], m) List.mem_cons_self).1.r.cell 8 _ rfl
      have z9 := (hSw.box (X1, [.slice aq1 m.regs.length ak1, .int .i64 m.pc, .slice aq2 m.mem.length ak2, .int .i64 m.save, .bool m.lets, .bool m.waits, .int .i64 m.halt, .slice aq3 m.ins.length ak3, .slice aq4 m.outs.length ak4, .int .i64 m.count], m) List.mem_cons_self).1.r.cell 9 _ rfl
      go_simp
      first | done | with_reducible rfl
    try simp only [Act.put, List.setIfInBounds_toArray, List.set]
    refine PhaseIn.takeD (i := 1) (v := ?_) [1, 3, 7, 8, 9] 41 rfl (by rfl) (by kernel_rfl) (by kernel_rfl) (by kernel_rfl) (by kernel_rfl) (by kernel_rfl) (fun _ _ _ h => h) (Or.inl ⟨by kernel_rfl, ?_⟩) hHeld ?_
    rotate_left
    · intro w' hSw
      (try dsimp only at hSw)
      go_simp
      first | done | with_reducible rfl
    try simp only [Act.put, List.setIfInBounds_toArray, List.set]
    refine PhaseIn.takeD (i := 2) (v := ?_) [2, 3, 7, 8, 9] 42 rfl (by rfl) (by kernel_rfl) (by kernel_rfl) (by kernel_rfl) (by kernel_rfl) (by kernel_rfl) (fun _ _ _ h => h) (Or.inl ⟨by kernel_rfl, ?_⟩) hHeld ?_
    rotate_left
    · intro w' hSw
      (try dsimp only at hSw)
      go_simp
      first | done | with_reducible rfl
    try simp only [Act.put, List.setIfInBounds_toArray, List.set]
    refine PhaseIn.takeD (i := 4) (v := ?_) [4, 7, 8, 9] 44 rfl (by rfl) (by kernel_rfl) (by kernel_rfl) (by kernel_rfl) (by kernel_rfl) (by kernel_rfl) (fun _ _ _ h => h) (Or.inl ⟨by kernel_rfl, ?_⟩) hHeld ?_
    rotate_left
    · intro w' hSw
      (try dsimp only at hSw)
      have z0 := (hSw.box (X1, [.slice aq1 m.regs.length ak1, .int .i64 m.pc, .slice aq2 m.mem.length ak2, .int .i64 m.save, .bool m.lets, .bool m.waits, .int .i64 m.halt, .slice aq3 m.ins.length ak3, .slice aq4 m.outs.length ak4, .int .i64 m.count], m) List.mem_cons_self).1.r.cell 0 _ rfl
      have z1 := (hSw.box (X1, [.slice aq1 m.regs.length ak1, .int .i64 m.pc, .slice aq2 m.mem.length ak2, .int .i64 m.save, .bool m.lets, .bool m.waits, .int .i64 m.halt, .slice aq3 m.ins.length ak3, .slice aq4 m.outs.length ak4, .int .i64 m.count], m) List.mem_cons_self).1.r.cell 1 _ rfl
      have z2 := (hSw.box (X1, [.slice aq1 m.regs.length ak1, .int .i64 m.pc, .slice aq2 m.mem.length ak2, .int .i64 m.save, .bool m.lets, .bool m.waits, .int .i64 m.halt, .slice aq3 m.ins.length ak3, .slice aq4 m.outs.length ak4, .int .i64 m.count], m) List.mem_cons_self).1.r.cell 2 _ rfl
      have z3 := (hSw.box (X1, [.slice aq1 m.regs.length ak1, .int .i64 m.pc, .slice aq2 m.mem.length ak2, .int .i64 m.save, .bool m.lets, .bool m.waits, .int .i64 m.halt, .slice aq3 m.ins.length ak3, .slice aq4 m.outs.length ak4, .int .i64 m.count], m) List.mem_cons_self).1.r.cell 3 _ rfl
      have z4 := (hSw.box (X1, [.slice aq1 m.regs.length ak1, .int .i64 m.pc, .slice aq2 m.mem.length ak2, .int .i64 m.save, .bool m.lets, .bool m.waits, .int .i64 m.halt, .slice aq3 m.ins.length ak3, .slice aq4 m.outs.length ak4, .int .i64 m.count], m) List.mem_cons_self).1.r.cell 4 _ rfl
      have z5 := (hSw.box (X1, [.slice aq1 m.regs.length ak1, .int .i64 m.pc, .slice aq2 m.mem.length ak2, .int .i64 m.save, .bool m.lets, .bool m.waits, .int .i64 m.halt, .slice aq3 m.ins.length ak3, .slice aq4 m.outs.length ak4, .int .i64 m.count], m) List.mem_cons_self).1.r.cell 5 _ rfl
      have z6 := (hSw.box (X1, [.slice aq1 m.regs.length ak1, .int .i64 m.pc, .slice aq2 m.mem.length ak2, .int .i64 m.save, .bool m.lets, .bool m.waits, .int .i64 m.halt, .slice aq3 m.ins.length ak3, .slice aq4 m.outs.length ak4, .int .i64 m.count], m) List.mem_cons_self).1.r.cell 6 _ rfl
      have z7 := (hSw.box (X1, [.slice aq1 m.regs.length ak1, .int .i64 m.pc, .slice aq2 m.mem.length ak2, .int .i64 m.save, .bool m.lets, .bool m.waits, .int .i64 m.halt, .slice aq3 m.ins.length ak3, .slice aq4 m.outs.length ak4, .int .i64 m.count], m) List.mem_cons_self).1.r.cell 7 _ rfl
      have z8 := (hSw.box (X1, [.slice aq1 m.regs.length ak1, .int .i64 m.pc, .slice aq2 m.mem.length ak2, .int .i64 m.save, .bool m.lets, .bool m.waits, .int .i64 m.halt, .slice aq3 m.ins.length ak3, .slice aq4 m.outs.length ak4, .int .i64 m.count], m) List.mem_cons_self).1.r.cell 8 _ rfl
      have z9 := (hSw.box (X1, [.slice aq1 m.regs.length ak1, .int .i64 m.pc, .slice aq2 m.mem.length ak2, .int .i64 m.save, .bool m.lets, .bool m.waits, .int .i64 m.halt, .slice aq3 m.ins.length ak3, .slice aq4 m.outs.length ak4, .int .i64 m.count], m) List.mem_cons_self).1.r.cell 9 _ rfl
      go_simp
      first | done | with_reducible rfl
    try simp only [Act.put, List.setIfInBounds_toArray, List.set]
    refine PhaseIn.takeD (i := 5) (v := ?_) [5, 7, 8, 9] 45 rfl (by rfl) (by kernel_rfl) (by kernel_rfl) (by kernel_rfl) (by kernel_rfl) (by kernel_rfl) (fun _ _ _ h => h) (Or.inl ⟨by kernel_rfl, ?_⟩) hHeld ?_
    rotate_left
    · intro w' hSw
      (try dsimp only at hSw)
      go_simp
      first | done | with_reducible rfl
    try simp only [Act.put, List.setIfInBounds_toArray, List.set]
    refine PhaseIn.takeD (i := 6) (v := ?_) [6, 7, 8, 9] 46 rfl (by rfl) (by kernel_rfl) (by kernel_rfl) (by kernel_rfl) (by kernel_rfl) (by kernel_rfl) (fun _ _ _ h => h) (Or.inl ⟨by kernel_rfl, ?_⟩) hHeld ?_
    rotate_left
    · intro w' hSw
      (try dsimp only at hSw)
      go_simp
      first | done | with_reducible rfl
    try simp only [Act.put, List.setIfInBounds_toArray, List.set]
    refine PhaseIn.one (i := 3) (by kernel_rfl) rfl (by kernel_rfl) (fun K hK => ?_)
    unfold Oper.wpIn
    refine ⟨fun _ _ => trivial, ?_⟩
    go_simp
    refine ⟨rfl, (callsIn_wide.2 (MchI.mchRun m xs (N : Int) _ _ _ _ (hHeld.box (X1, [.slice aq1 m.regs.length ak1, .int .i64 m.pc, .slice aq2 m.mem.length ak2, .int .i64 m.save, .bool m.lets, .bool m.waits, .int .i64 m.halt, .slice aq3 m.ins.length ak3, .slice aq4 m.outs.length ak4, .int .i64 m.count], m) List.mem_cons_self).2 (hHeld.row (Bi, (.slice qi li ci), xs) List.mem_cons_self) FM.out.near)).mono ?_⟩
    rintro e wv10 ⟨c4, rfl, M4, hb⟩
    have MY := hide M4.read
    rw [EX.out] at MY
    clear M4
    replace hHeld := hHeld.below hb
    clear hb
    refine hK _ _ (fun _ => hHeld) ?_
    clear hK K
    try simp only [Act.put, List.setIfInBounds_toArray, List.set]
    refine PhaseIn.one (i := 7) (by kernel_rfl) rfl (by kernel_rfl) (fun K hK => ?_)
    unfold Oper.wpIn
    refine ⟨fun _ _ => trivial, ?_⟩
    go_simp
    refine ⟨rfl, (callsIn_wide.2 (MchI.mchRun m (xs ++ [m.count + (N : Int), m.count - 1]) (N : Int) _ _ _ _ (hHeld.box (X1, [.slice aq1 m.regs.length ak1, .int .i64 m.pc, .slice aq2 m.mem.length ak2, .int .i64 m.save, .bool m.lets, .bool m.waits, .int .i64 m.halt, .slice aq3 m.ins.length ak3, .slice aq4 m.outs.length ak4, .int .i64 m.count], m) List.mem_cons_self).2 (hHeld.row (B, (.slice (some ⟨g, 0, none⟩) (xs.length + 2) k), (xs ++ [m.count + (N : Int), m.count - 1])) (List.mem_cons_of_mem _ List.mem_cons_self)) FM.out.near)).mono ?_⟩
    rintro e wv11 ⟨c5, rfl, M5, hb⟩
    have MV := hide M5.read
    rw [EX2.out] at MV
    clear M5
    replace hHeld := hHeld.below hb
    replace MY := hide (MY.out.below hb)
    clear hb
    refine hK _ _ (fun _ => hHeld) ?_
    clear hK K
    try simp only [Act.put, List.setIfInBounds_toArray, List.set]
    refine PhaseIn.one (i := 8) (by kernel_rfl) rfl (by kernel_rfl) (fun K hK => ?_)
    unfold Oper.wpIn
    refine ⟨fun _ _ => trivial, ?_⟩
    go_simp
    refine ⟨rfl, (callsIn_wide.2 (La.laMach x _ _ _ MY.out MV.out)).mono ?_⟩
    rintro e wv12 ⟨rfl, hb⟩
    replace hHeld := hHeld.below hb
    clear hb
    refine hK _ _ (fun _ => hHeld) ?_
    clear hK K
    try simp only [Act.put, List.setIfInBounds_toArray, List.set]
    clear MV MY
    refine PhaseIn.takeD (i := 9) (v := ?_) [9] 2 rfl (by rfl) (by kernel_rfl) (by kernel_rfl) (by kernel_rfl) (by kernel_rfl) (by kernel_rfl) (fun _ _ _ h => h) (Or.inl ⟨by kernel_rfl, ?_⟩) hHeld ?_
    rotate_left
    · intro w' hSw
      (try dsimp only at hSw)
      go_simp
      first | done | with_reducible rfl
    try simp only [Act.put, List.setIfInBounds_toArray, List.set]
    refine PhaseIn.done (by kernel_rfl) ?_ _
    have S := hide hHeld
    clear hHeld
    have FIN := hide S.out.bw
    clear S
    go_wp2
    go_ret
    exact ⟨rfl, FIN.out⟩

set_option maxRecDepth 100000 in
theorem lifted (os : Os) (started : os.Started) (H : Type) (enc : TypeId × Value → H) :
    ReturnsInHanded {} Tryz.checked os 13 .any (Rows.fnMchLateSpec.pre6 enc Tryz.prog Tryz.f13 Rows.fnMchLateRow.domain false) (Rows.fnMchLateSpec.post enc Tryz.prog Tryz.f13 false true false false) := by
  refine returnsInHanded_of_change (C := Tryz.checked) own started (by kernel_rfl) Tryz.func13
    (ChangeSpec.witness6 (enc := enc) (C := Tryz.checked) false ⟨#[], #[.slice none 0 0], []⟩ 8 (by kernel_rfl) (by kernel_rfl) (by kernel_rfl) (by kernel_rfl)) ?_
  intro W base args ds gs before hval0 hW hcnd _
  have hval : ∀ (j : Nat) t v, Tryz.f13.params[j]? = some t → args[j]? = some v → Value.okWide Tryz.prog W .any base t v := hval0
  have hW' := hW
  obtain ⟨p, q, hA0, hV, rfl, hfz, hnd⟩ := hW
  have hA : DataW.TrodAll enc Tryz.prog W 0 (fun _ => true) true Tryz.f13.params.toList args.toList ds p := hA0
  rw [Tryz.params13] at hA hval
  obtain ⟨v0, vs0, d0, ds0, p0, q0, hargs, rfl, rfl, h0, r0⟩ := trodAll_cons hA
  obtain ⟨rfl, rfl, rfl⟩ := trodAll_nil r0
  obtain rfl : args = #[v0] := by cases args; simp_all
  obtain ⟨rfl, rfl⟩ := trodVars_none hV
  obtain ⟨a0, len0, cap0, rfl⟩ := okWide_slice Tryz.underlying22 (hval 0 22 v0 rfl rfl)
  have k0 := h0
  have lt0 : ∀ x ∈ p0, x.block < W.heap.size := by obtain ⟨m, hm⟩ := k0; exact DataW.trod_lt m _ _ _ hm
  obtain ⟨z0, w0⟩ : ∃ zs, IsRow .u8 W a0 len0 cap0 zs := by
    obtain ⟨fuel, hf⟩ := h0
    rcases open_ints Tryz.underlying22 Tryz.underlying5 (by kernel_rfl) hf with ⟨hcs, _⟩ | ⟨x, l, c, zs, hcs, _, hl, hm, hz, _, hcell, hwz⟩
    · simp [Value.cells] at hcs
      obtain ⟨rfl, rfl, rfl⟩ := hcs
      exact ⟨[], .inl ⟨rfl, rfl, rfl, rfl⟩⟩
    · simp [Value.cells] at hcs
      obtain ⟨rfl, rfl, rfl⟩ := hcs
      exact ⟨zs, .inr ⟨_, rfl, hl, hm, by simpa using hz, hcell, hwz⟩⟩
  clear hA0 hval0
  refine (walk a0 len0 cap0 z0 W w0).mono fun e W' ⟨he, bel⟩ => ?_
  subst he
  exact ⟨_, rfl, _, _, _, [], _, [], hW', trodAll_mk1 (shut_bool Tryz.underlying4 _), (trodAll_cons_mk (Below.trod laidOut (by kernel_rfl) (of_decide_eq_true (by kernel_rfl)) k0 bel lt0) trodAll_mk0), rfl, bel.frame _, fun h => by cases h⟩

theorem over : Rows.fnMchLateRow.holds Tryz.pinned (OpenSpec.ofChange Rows.fnMchLateSpec) :=
  OpenClaim.holds_of_wide 13 Tryz.f13 rfl rfl rfl rfl rfl rfl rfl ⟨rfl, rfl, rfl, rfl, rfl⟩ rfl rfl rfl rfl rfl (by kernel_rfl) Tryz.func13 (by kernel_rfl)
    (of_decide_eq_true (by kernel_rfl)) (by unfold Func.isWrapper; first | (rw [if_pos (by decide +kernel)]; kernel_rfl) | (rw [if_neg (by decide +kernel)]; exact ⟨rfl, rfl⟩))
    (fun os started H enc _ => lifted os started H enc)

theorem proved : Rows.FnMchLateSaid := over
#print axioms proved
end Go.Proofs.YtnhpmbhphbphaaaGreat.fnMchLate
