/-
  At every code of bytes the law FnMchRun returns true (P18: a run of so many and of so many more behind it is a run of all; a run that stands still does not go on); no condition.
  The frame (the steps lifted, over, proved) is the guide's shell, written by its program; the walk and the lemmas ahead of it are mine.
-/
import Derived.Test.YtnhpmbhphbphaaaGreatRows
import Derived.WalkKit
import Derived.ProofKit
import Derived.OpenShut
import Derived.Test.YtnhpmbhphbphaaaGreatSit
import Derived.Test.YtnhpmbhphbphaaaGreatMpC
import Derived.ShutString
import Derived.ChangeOld
import Derived.Below
namespace Go.Proofs.YtnhpmbhphbphaaaGreat.fnMchRun
open Go.ChangeShapes Go.WideShapes Go.ChangeAt Go.RowKit
open Go.ChangeMaps (open_string shut_string)
set_option linter.unusedVariables false

theorem own : ownKnob Tryz.prog.godebug = none := by kernel_rfl
theorem laidOut : laidOutB Tryz.prog = true := by kernel_rfl

def IsRow (k : IntKind) (w : World) (a : Option Addr) (len cap : Nat) (zs : List Int) : Prop :=
  (a = none ∧ len = 0 ∧ cap = 0 ∧ zs = []) ∨
  ∃ x, a = some x ∧ len ≤ cap ∧ cap ≤ maxLen ∧ zs.length = cap ∧ (∀ i, i < zs.length → w.cell? (x.add i) = some (.int k (zs.getD i 0))) ∧ ∀ n ∈ zs, (Lit.int k n).wf = true

open IntS Mch
set_option linter.unusedVariables false
set_option linter.unusedSimpArgs false

set_option maxRecDepth 8000 in
set_option maxHeartbeats 16000000 in
theorem walk (a0 : Option Addr) (len0 cap0 : Nat) (z0 : List Int) (w : World) (w0 : IsRow .u8 w a0 len0 cap0 z0) :
    Calls Tryz.prog 6 #[.slice a0 len0 cap0] w fun e w' => e = .returned (.bool true) ∧ Below w.heap.size w w' := by
  obtain ⟨hlc, hm, hc⟩ := Draw.code_row w a0 len0 cap0 z0 w0
  by_cases hl : 1048576 < len0
  · unfold maxLen at hm
    go_enter Tryz.func6, Tryz.ntmps6
    go_wp2
    go_ret
    exact ⟨rfl, Below.refl _ _⟩
  clear w0
  go_enter Tryz.func6, Tryz.ntmps6
  go_wp2_with fail
  refine (Draw.drawRun a0 len0 cap0 _ hlc hm hc).mono ?_
  rintro e va ⟨c, m, qi, li, ci, xs, n, Bi, rfl, MC, MF, RI, hxl, hx4, hn, hb⟩
  have FM := hide MF
  have S0 : Hid (Sit w [] [(Bi, (.slice qi li ci), xs)] va) := ⟨hb, fun b h => absurd h (by simp), fun r hr => by rcases List.mem_cons.1 hr with rfl | hr; exact RI; exact absurd hr (by simp)⟩
  have M0 := MC.write.read
  clear hc hm hlc hb MC MF RI
  have S := S0
  clear S0
  have HN := hide hn
  have HXL := hide (And.intro hxl hx4)
  clear hn hx4 hxl
  obtain ⟨aq1, aq2, aq3, aq4, ak1, ak2, ak3, ak4, rfl⟩ := rforms M0
  have S2 := hide (Sit.add S.out M0)
  simp only [mv] at M0 S2 ⊢
  clear S M0
  have S := S2
  clear S2
  go_wp2_with fail
  generalize hZ : va.heap.size = X1 at S ⊢
  clear hZ
  generalize va.alloc (.cells #[.slice aq1 m.regs.length ak1, .int .i64 m.pc, .slice aq2 m.mem.length ak2, .int .i64 m.save, .bool m.lets, .bool m.waits, .int .i64 m.halt, .slice aq3 m.ins.length ak3, .slice aq4 m.outs.length ak4, .int .i64 m.count] 25) = wv1 at S ⊢
  have ac0 := (S.out.box (X1, [.slice aq1 m.regs.length ak1, .int .i64 m.pc, .slice aq2 m.mem.length ak2, .int .i64 m.save, .bool m.lets, .bool m.waits, .int .i64 m.halt, .slice aq3 m.ins.length ak3, .slice aq4 m.outs.length ak4, .int .i64 m.count], m) List.mem_cons_self).1.r.cell 0 _ rfl
  have ac1 := (S.out.box (X1, [.slice aq1 m.regs.length ak1, .int .i64 m.pc, .slice aq2 m.mem.length ak2, .int .i64 m.save, .bool m.lets, .bool m.waits, .int .i64 m.halt, .slice aq3 m.ins.length ak3, .slice aq4 m.outs.length ak4, .int .i64 m.count], m) List.mem_cons_self).1.r.cell 1 _ rfl
  have ac2 := (S.out.box (X1, [.slice aq1 m.regs.length ak1, .int .i64 m.pc, .slice aq2 m.mem.length ak2, .int .i64 m.save, .bool m.lets, .bool m.waits, .int .i64 m.halt, .slice aq3 m.ins.length ak3, .slice aq4 m.outs.length ak4, .int .i64 m.count], m) List.mem_cons_self).1.r.cell 2 _ rfl
  have ac3 := (S.out.box (X1, [.slice aq1 m.regs.length ak1, .int .i64 m.pc, .slice aq2 m.mem.length ak2, .int .i64 m.save, .bool m.lets, .bool m.waits, .int .i64 m.halt, .slice aq3 m.ins.length ak3, .slice aq4 m.outs.length ak4, .int .i64 m.count], m) List.mem_cons_self).1.r.cell 3 _ rfl
  have ac4 := (S.out.box (X1, [.slice aq1 m.regs.length ak1, .int .i64 m.pc, .slice aq2 m.mem.length ak2, .int .i64 m.save, .bool m.lets, .bool m.waits, .int .i64 m.halt, .slice aq3 m.ins.length ak3, .slice aq4 m.outs.length ak4, .int .i64 m.count], m) List.mem_cons_self).1.r.cell 4 _ rfl
  have ac5 := (S.out.box (X1, [.slice aq1 m.regs.length ak1, .int .i64 m.pc, .slice aq2 m.mem.length ak2, .int .i64 m.save, .bool m.lets, .bool m.waits, .int .i64 m.halt, .slice aq3 m.ins.length ak3, .slice aq4 m.outs.length ak4, .int .i64 m.count], m) List.mem_cons_self).1.r.cell 5 _ rfl
  have ac6 := (S.out.box (X1, [.slice aq1 m.regs.length ak1, .int .i64 m.pc, .slice aq2 m.mem.length ak2, .int .i64 m.save, .bool m.lets, .bool m.waits, .int .i64 m.halt, .slice aq3 m.ins.length ak3, .slice aq4 m.outs.length ak4, .int .i64 m.count], m) List.mem_cons_self).1.r.cell 6 _ rfl
  have ac7 := (S.out.box (X1, [.slice aq1 m.regs.length ak1, .int .i64 m.pc, .slice aq2 m.mem.length ak2, .int .i64 m.save, .bool m.lets, .bool m.waits, .int .i64 m.halt, .slice aq3 m.ins.length ak3, .slice aq4 m.outs.length ak4, .int .i64 m.count], m) List.mem_cons_self).1.r.cell 7 _ rfl
  have ac8 := (S.out.box (X1, [.slice aq1 m.regs.length ak1, .int .i64 m.pc, .slice aq2 m.mem.length ak2, .int .i64 m.save, .bool m.lets, .bool m.waits, .int .i64 m.halt, .slice aq3 m.ins.length ak3, .slice aq4 m.outs.length ak4, .int .i64 m.count], m) List.mem_cons_self).1.r.cell 8 _ rfl
  have ac9 := (S.out.box (X1, [.slice aq1 m.regs.length ak1, .int .i64 m.pc, .slice aq2 m.mem.length ak2, .int .i64 m.save, .bool m.lets, .bool m.waits, .int .i64 m.halt, .slice aq3 m.ins.length ak3, .slice aq4 m.outs.length ak4, .int .i64 m.count], m) List.mem_cons_self).1.r.cell 9 _ rfl
  obtain ⟨x, ex⟩ : ∃ x, runOf m xs n = x := ⟨_, rfl⟩
  have EX := hide ex
  clear ex
  obtain ⟨ok, eo⟩ : ∃ ok, okM m = ok := ⟨_, rfl⟩
  have EO := hide eo
  clear eo
  refine (MchI.mchRun m xs n _ _ _ _ (S.out.box (X1, [.slice aq1 m.regs.length ak1, .int .i64 m.pc, .slice aq2 m.mem.length ak2, .int .i64 m.save, .bool m.lets, .bool m.waits, .int .i64 m.halt, .slice aq3 m.ins.length ak3, .slice aq4 m.outs.length ak4, .int .i64 m.count], m) List.mem_cons_self).2 (S.out.row (Bi, (.slice qi li ci), xs) List.mem_cons_self) FM.out.near).mono ?_
  rintro e wv2 ⟨c2, rfl, M1, hb⟩
  have M2 := M1.read
  rw [EX.out] at M2
  clear M1
  have S2 := hide (S.out.below hb)
  clear S
  have S := S2
  clear S2
  clear hb
  clear ac0 ac1 ac2 ac3 ac4 ac5 ac6 ac7 ac8 ac9
  obtain ⟨bq1, bq2, bq3, bq4, bk1, bk2, bk3, bk4, rfl⟩ := rforms M2
  have S2 := hide (Sit.add S.out M2)
  simp only [mv] at M2 S2 ⊢
  clear S M2
  have S := S2
  clear S2
  go_wp2_with fail
  generalize hZ : wv2.heap.size = X2 at S ⊢
  clear hZ
  generalize wv2.alloc (.cells #[.slice bq1 x.regs.length bk1, .int .i64 x.pc, .slice bq2 x.mem.length bk2, .int .i64 x.save, .bool x.lets, .bool x.waits, .int .i64 x.halt, .slice bq3 x.ins.length bk3, .slice bq4 x.outs.length bk4, .int .i64 x.count] 25) = wv3 at S ⊢
  refine (wpIn_wide (n := 0)).1 ?_
  have S2 := hide S.out.drew
  clear S
  have S := S2
  clear S2
  refine PhaseIn.region (S := fun v => Sit w [(X2, [.slice bq1 x.regs.length bk1, .int .i64 x.pc, .slice bq2 x.mem.length bk2, .int .i64 x.save, .bool x.lets, .bool x.waits, .int .i64 x.halt, .slice bq3 x.ins.length bk3, .slice bq4 x.outs.length bk4, .int .i64 x.count], x), (X1, [.slice aq1 m.regs.length ak1, .int .i64 m.pc, .slice aq2 m.mem.length ak2, .int .i64 m.save, .bool m.lets, .bool m.waits, .int .i64 m.halt, .slice aq3 m.ins.length ak3, .slice aq4 m.outs.length ak4, .int .i64 m.count], m)] [(Bi, (.slice qi li ci), xs)] v) 7 (by kernel_rfl) ?_
  generalize wv3.drew = wv4 at *
  have hHeld := S.out
  clear S
  refine PhaseIn.takeD (i := 0) (v := ?_) [0, 5, 6] 21 rfl (by rfl) (by kernel_rfl) (by kernel_rfl) (by kernel_rfl) (by kernel_rfl) (by kernel_rfl) (fun _ _ _ h => h) (Or.inl ⟨by kernel_rfl, ?_⟩) hHeld ?_
  rotate_left
  · intro w' hSw
    (try dsimp only at hSw)
    have z0 := (hSw.box (X2, [.slice bq1 x.regs.length bk1, .int .i64 x.pc, .slice bq2 x.mem.length bk2, .int .i64 x.save, .bool x.lets, .bool x.waits, .int .i64 x.halt, .slice bq3 x.ins.length bk3, .slice bq4 x.outs.length bk4, .int .i64 x.count], x) List.mem_cons_self).1.r.cell 0 _ rfl
    have z1 := (hSw.box (X2, [.slice bq1 x.regs.length bk1, .int .i64 x.pc, .slice bq2 x.mem.length bk2, .int .i64 x.save, .bool x.lets, .bool x.waits, .int .i64 x.halt, .slice bq3 x.ins.length bk3, .slice bq4 x.outs.length bk4, .int .i64 x.count], x) List.mem_cons_self).1.r.cell 1 _ rfl
    have z2 := (hSw.box (X2, [.slice bq1 x.regs.length bk1, .int .i64 x.pc, .slice bq2 x.mem.length bk2, .int .i64 x.save, .bool x.lets, .bool x.waits, .int .i64 x.halt, .slice bq3 x.ins.length bk3, .slice bq4 x.outs.length bk4, .int .i64 x.count], x) List.mem_cons_self).1.r.cell 2 _ rfl
    have z3 := (hSw.box (X2, [.slice bq1 x.regs.length bk1, .int .i64 x.pc, .slice bq2 x.mem.length bk2, .int .i64 x.save, .bool x.lets, .bool x.waits, .int .i64 x.halt, .slice bq3 x.ins.length bk3, .slice bq4 x.outs.length bk4, .int .i64 x.count], x) List.mem_cons_self).1.r.cell 3 _ rfl
    have z4 := (hSw.box (X2, [.slice bq1 x.regs.length bk1, .int .i64 x.pc, .slice bq2 x.mem.length bk2, .int .i64 x.save, .bool x.lets, .bool x.waits, .int .i64 x.halt, .slice bq3 x.ins.length bk3, .slice bq4 x.outs.length bk4, .int .i64 x.count], x) List.mem_cons_self).1.r.cell 4 _ rfl
    have z5 := (hSw.box (X2, [.slice bq1 x.regs.length bk1, .int .i64 x.pc, .slice bq2 x.mem.length bk2, .int .i64 x.save, .bool x.lets, .bool x.waits, .int .i64 x.halt, .slice bq3 x.ins.length bk3, .slice bq4 x.outs.length bk4, .int .i64 x.count], x) List.mem_cons_self).1.r.cell 5 _ rfl
    have z6 := (hSw.box (X2, [.slice bq1 x.regs.length bk1, .int .i64 x.pc, .slice bq2 x.mem.length bk2, .int .i64 x.save, .bool x.lets, .bool x.waits, .int .i64 x.halt, .slice bq3 x.ins.length bk3, .slice bq4 x.outs.length bk4, .int .i64 x.count], x) List.mem_cons_self).1.r.cell 6 _ rfl
    have z7 := (hSw.box (X2, [.slice bq1 x.regs.length bk1, .int .i64 x.pc, .slice bq2 x.mem.length bk2, .int .i64 x.save, .bool x.lets, .bool x.waits, .int .i64 x.halt, .slice bq3 x.ins.length bk3, .slice bq4 x.outs.length bk4, .int .i64 x.count], x) List.mem_cons_self).1.r.cell 7 _ rfl
    have z8 := (hSw.box (X2, [.slice bq1 x.regs.length bk1, .int .i64 x.pc, .slice bq2 x.mem.length bk2, .int .i64 x.save, .bool x.lets, .bool x.waits, .int .i64 x.halt, .slice bq3 x.ins.length bk3, .slice bq4 x.outs.length bk4, .int .i64 x.count], x) List.mem_cons_self).1.r.cell 8 _ rfl
    have z9 := (hSw.box (X2, [.slice bq1 x.regs.length bk1, .int .i64 x.pc, .slice bq2 x.mem.length bk2, .int .i64 x.save, .bool x.lets, .bool x.waits, .int .i64 x.halt, .slice bq3 x.ins.length bk3, .slice bq4 x.outs.length bk4, .int .i64 x.count], x) List.mem_cons_self).1.r.cell 9 _ rfl
    go_simp
    first | done | with_reducible rfl
  try simp only [Act.put, List.setIfInBounds_toArray, List.set]
  refine PhaseIn.takeD (i := 1) (v := ?_) [1, 4, 5, 6] 22 rfl (by rfl) (by kernel_rfl) (by kernel_rfl) (by kernel_rfl) (by kernel_rfl) (by kernel_rfl) (fun _ _ _ h => h) (Or.inl ⟨by kernel_rfl, ?_⟩) hHeld ?_
  rotate_left
  · intro w' hSw
    (try dsimp only at hSw)
    have z0 := (hSw.box (X1, [.slice aq1 m.regs.length ak1, .int .i64 m.pc, .slice aq2 m.mem.length ak2, .int .i64 m.save, .bool m.lets, .bool m.waits, .int .i64 m.halt, .slice aq3 m.ins.length ak3, .slice aq4 m.outs.length ak4, .int .i64 m.count], m) (List.mem_cons_of_mem _ List.mem_cons_self)).1.r.cell 0 _ rfl
    have z1 := (hSw.box (X1, [.slice aq1 m.regs.length ak1, .int .i64 m.pc, .slice aq2 m.mem.length ak2, .int .i64 m.save, .bool m.lets, .bool m.waits, .int .i64 m.halt, .slice aq3 m.ins.length ak3, .slice aq4 m.outs.length ak4, .int .i64 m.count], m) (List.mem_cons_of_mem _ List.mem_cons_self)).1.r.cell 1 _ rfl
    have z2 := (hSw.box (X1, [.slice aq1 m.regs.length ak1, .int .i64 m.pc, .slice aq2 m.mem.length ak2, .int .i64 m.save, .bool m.lets, .bool m.waits, .int .i64 m.halt, .slice aq3 m.ins.length ak3, .slice aq4 m.outs.length ak4, .int .i64 m.count], m) (List.mem_cons_of_mem _ List.mem_cons_self)).1.r.cell 2 _ rfl
    have z3 := (hSw.box (X1, [.slice aq1 m.regs.length ak1, .int .i64 m.pc, .slice aq2 m.mem.length ak2, .int .i64 m.save, .bool m.lets, .bool m.waits, .int .i64 m.halt, .slice aq3 m.ins.length ak3, .slice aq4 m.outs.length ak4, .int .i64 m.count], m) (List.mem_cons_of_mem _ List.mem_cons_self)).1.r.cell 3 _ rfl
    have z4 := (hSw.box (X1, [.slice aq1 m.regs.length ak1, .int .i64 m.pc, .slice aq2 m.mem.length ak2, .int .i64 m.save, .bool m.lets, .bool m.waits, .int .i64 m.halt, .slice aq3 m.ins.length ak3, .slice aq4 m.outs.length ak4, .int .i64 m.count], m) (List.mem_cons_of_mem _ List.mem_cons_self)).1.r.cell 4 _ rfl
    have z5 := (hSw.box (X1, [.slice aq1 m.regs.length ak1, .int .i64 m.pc, .slice aq2 m.mem.length ak2, .int .i64 m.save, .bool m.lets, .bool m.waits, .int .i64 m.halt, .slice aq3 m.ins.length ak3, .slice aq4 m.outs.length ak4, .int .i64 m.count], m) (List.mem_cons_of_mem _ List.mem_cons_self)).1.r.cell 5 _ rfl
    have z6 := (hSw.box (X1, [.slice aq1 m.regs.length ak1, .int .i64 m.pc, .slice aq2 m.mem.length ak2, .int .i64 m.save, .bool m.lets, .bool m.waits, .int .i64 m.halt, .slice aq3 m.ins.length ak3, .slice aq4 m.outs.length ak4, .int .i64 m.count], m) (List.mem_cons_of_mem _ List.mem_cons_self)).1.r.cell 6 _ rfl
    have z7 := (hSw.box (X1, [.slice aq1 m.regs.length ak1, .int .i64 m.pc, .slice aq2 m.mem.length ak2, .int .i64 m.save, .bool m.lets, .bool m.waits, .int .i64 m.halt, .slice aq3 m.ins.length ak3, .slice aq4 m.outs.length ak4, .int .i64 m.count], m) (List.mem_cons_of_mem _ List.mem_cons_self)).1.r.cell 7 _ rfl
    have z8 := (hSw.box (X1, [.slice aq1 m.regs.length ak1, .int .i64 m.pc, .slice aq2 m.mem.length ak2, .int .i64 m.save, .bool m.lets, .bool m.waits, .int .i64 m.halt, .slice aq3 m.ins.length ak3, .slice aq4 m.outs.length ak4, .int .i64 m.count], m) (List.mem_cons_of_mem _ List.mem_cons_self)).1.r.cell 8 _ rfl
    have z9 := (hSw.box (X1, [.slice aq1 m.regs.length ak1, .int .i64 m.pc, .slice aq2 m.mem.length ak2, .int .i64 m.save, .bool m.lets, .bool m.waits, .int .i64 m.halt, .slice aq3 m.ins.length ak3, .slice aq4 m.outs.length ak4, .int .i64 m.count], m) (List.mem_cons_of_mem _ List.mem_cons_self)).1.r.cell 9 _ rfl
    go_simp
    first | done | with_reducible rfl
  try simp only [Act.put, List.setIfInBounds_toArray, List.set]
  refine PhaseIn.takeD (i := 2) (v := ?_) [2, 4, 5, 6] 23 rfl (by rfl) (by kernel_rfl) (by kernel_rfl) (by kernel_rfl) (by kernel_rfl) (by kernel_rfl) (fun _ _ _ h => h) (Or.inl ⟨by kernel_rfl, ?_⟩) hHeld ?_
  rotate_left
  · intro w' hSw
    (try dsimp only at hSw)
    go_simp
    first | done | with_reducible rfl
  try simp only [Act.put, List.setIfInBounds_toArray, List.set]
  refine PhaseIn.takeD (i := 3) (v := ?_) [3, 4, 5, 6] 24 rfl (by rfl) (by kernel_rfl) (by kernel_rfl) (by kernel_rfl) (by kernel_rfl) (by kernel_rfl) (fun _ _ _ h => h) (Or.inl ⟨by kernel_rfl, ?_⟩) hHeld ?_
  rotate_left
  · intro w' hSw
    (try dsimp only at hSw)
    go_simp
    first | done | with_reducible rfl
  try simp only [Act.put, List.setIfInBounds_toArray, List.set]
  refine PhaseIn.one (i := 4) (by kernel_rfl) rfl (by kernel_rfl) (fun K hK => ?_)
  unfold Oper.wpIn
  refine ⟨fun _ _ => trivial, ?_⟩
  go_simp
  refine ⟨rfl, (callsIn_wide.2 (specRun m xs n _ _ _ _ (hHeld.box (X1, [.slice aq1 m.regs.length ak1, .int .i64 m.pc, .slice aq2 m.mem.length ak2, .int .i64 m.save, .bool m.lets, .bool m.waits, .int .i64 m.halt, .slice aq3 m.ins.length ak3, .slice aq4 m.outs.length ak4, .int .i64 m.count], m) (List.mem_cons_of_mem _ List.mem_cons_self)).2 (hHeld.row (Bi, (.slice qi li ci), xs) List.mem_cons_self) FM.out.near)).mono ?_⟩
  rintro e wv5 ⟨c3, rfl, M3, hb⟩
  have MW := hide M3.read
  rw [EX.out] at MW
  clear M3
  replace hHeld := hHeld.below hb
  clear hb
  refine hK _ _ (fun _ => hHeld) ?_
  clear hK K
  try simp only [Act.put, List.setIfInBounds_toArray, List.set]
  refine PhaseIn.one (i := 5) (by kernel_rfl) rfl (by kernel_rfl) (fun K hK => ?_)
  unfold Oper.wpIn
  refine ⟨fun _ _ => trivial, ?_⟩
  go_simp
  refine ⟨rfl, (callsIn_wide.2 (La.laMach x _ _ _ (hHeld.box (X2, [.slice bq1 x.regs.length bk1, .int .i64 x.pc, .slice bq2 x.mem.length bk2, .int .i64 x.save, .bool x.lets, .bool x.waits, .int .i64 x.halt, .slice bq3 x.ins.length bk3, .slice bq4 x.outs.length bk4, .int .i64 x.count], x) List.mem_cons_self).2 MW.out)).mono ?_⟩
  rintro e wv6 ⟨rfl, hb⟩
  replace hHeld := hHeld.below hb
  clear hb
  refine hK _ _ (fun _ => hHeld) ?_
  clear hK K
  try simp only [Act.put, List.setIfInBounds_toArray, List.set]
  clear MW
  refine PhaseIn.takeD (i := 6) (v := ?_) [6] 27 rfl (by rfl) (by kernel_rfl) (by kernel_rfl) (by kernel_rfl) (by kernel_rfl) (by kernel_rfl) (fun _ _ _ h => h) (Or.inl ⟨by kernel_rfl, ?_⟩) hHeld ?_
  rotate_left
  · intro w' hSw
    (try dsimp only at hSw)
    go_simp
    first | done | with_reducible rfl
  try simp only [Act.put, List.setIfInBounds_toArray, List.set]
  refine PhaseIn.done (by kernel_rfl) ?_ _
  have S := hide hHeld
  clear hHeld
  have ac0 := (S.out.box (X1, [.slice aq1 m.regs.length ak1, .int .i64 m.pc, .slice aq2 m.mem.length ak2, .int .i64 m.save, .bool m.lets, .bool m.waits, .int .i64 m.halt, .slice aq3 m.ins.length ak3, .slice aq4 m.outs.length ak4, .int .i64 m.count], m) (List.mem_cons_of_mem _ List.mem_cons_self)).1.r.cell 0 _ rfl
  have ac1 := (S.out.box (X1, [.slice aq1 m.regs.length ak1, .int .i64 m.pc, .slice aq2 m.mem.length ak2, .int .i64 m.save, .bool m.lets, .bool m.waits, .int .i64 m.halt, .slice aq3 m.ins.length ak3, .slice aq4 m.outs.length ak4, .int .i64 m.count], m) (List.mem_cons_of_mem _ List.mem_cons_self)).1.r.cell 1 _ rfl
  have ac2 := (S.out.box (X1, [.slice aq1 m.regs.length ak1, .int .i64 m.pc, .slice aq2 m.mem.length ak2, .int .i64 m.save, .bool m.lets, .bool m.waits, .int .i64 m.halt, .slice aq3 m.ins.length ak3, .slice aq4 m.outs.length ak4, .int .i64 m.count], m) (List.mem_cons_of_mem _ List.mem_cons_self)).1.r.cell 2 _ rfl
  have ac3 := (S.out.box (X1, [.slice aq1 m.regs.length ak1, .int .i64 m.pc, .slice aq2 m.mem.length ak2, .int .i64 m.save, .bool m.lets, .bool m.waits, .int .i64 m.halt, .slice aq3 m.ins.length ak3, .slice aq4 m.outs.length ak4, .int .i64 m.count], m) (List.mem_cons_of_mem _ List.mem_cons_self)).1.r.cell 3 _ rfl
  have ac4 := (S.out.box (X1, [.slice aq1 m.regs.length ak1, .int .i64 m.pc, .slice aq2 m.mem.length ak2, .int .i64 m.save, .bool m.lets, .bool m.waits, .int .i64 m.halt, .slice aq3 m.ins.length ak3, .slice aq4 m.outs.length ak4, .int .i64 m.count], m) (List.mem_cons_of_mem _ List.mem_cons_self)).1.r.cell 4 _ rfl
  have ac5 := (S.out.box (X1, [.slice aq1 m.regs.length ak1, .int .i64 m.pc, .slice aq2 m.mem.length ak2, .int .i64 m.save, .bool m.lets, .bool m.waits, .int .i64 m.halt, .slice aq3 m.ins.length ak3, .slice aq4 m.outs.length ak4, .int .i64 m.count], m) (List.mem_cons_of_mem _ List.mem_cons_self)).1.r.cell 5 _ rfl
  have ac6 := (S.out.box (X1, [.slice aq1 m.regs.length ak1, .int .i64 m.pc, .slice aq2 m.mem.length ak2, .int .i64 m.save, .bool m.lets, .bool m.waits, .int .i64 m.halt, .slice aq3 m.ins.length ak3, .slice aq4 m.outs.length ak4, .int .i64 m.count], m) (List.mem_cons_of_mem _ List.mem_cons_self)).1.r.cell 6 _ rfl
  have ac7 := (S.out.box (X1, [.slice aq1 m.regs.length ak1, .int .i64 m.pc, .slice aq2 m.mem.length ak2, .int .i64 m.save, .bool m.lets, .bool m.waits, .int .i64 m.halt, .slice aq3 m.ins.length ak3, .slice aq4 m.outs.length ak4, .int .i64 m.count], m) (List.mem_cons_of_mem _ List.mem_cons_self)).1.r.cell 7 _ rfl
  have ac8 := (S.out.box (X1, [.slice aq1 m.regs.length ak1, .int .i64 m.pc, .slice aq2 m.mem.length ak2, .int .i64 m.save, .bool m.lets, .bool m.waits, .int .i64 m.halt, .slice aq3 m.ins.length ak3, .slice aq4 m.outs.length ak4, .int .i64 m.count], m) (List.mem_cons_of_mem _ List.mem_cons_self)).1.r.cell 8 _ rfl
  have ac9 := (S.out.box (X1, [.slice aq1 m.regs.length ak1, .int .i64 m.pc, .slice aq2 m.mem.length ak2, .int .i64 m.save, .bool m.lets, .bool m.waits, .int .i64 m.halt, .slice aq3 m.ins.length ak3, .slice aq4 m.outs.length ak4, .int .i64 m.count], m) (List.mem_cons_of_mem _ List.mem_cons_self)).1.r.cell 9 _ rfl
  have bc0 := (S.out.box (X2, [.slice bq1 x.regs.length bk1, .int .i64 x.pc, .slice bq2 x.mem.length bk2, .int .i64 x.save, .bool x.lets, .bool x.waits, .int .i64 x.halt, .slice bq3 x.ins.length bk3, .slice bq4 x.outs.length bk4, .int .i64 x.count], x) List.mem_cons_self).1.r.cell 0 _ rfl
  have bc1 := (S.out.box (X2, [.slice bq1 x.regs.length bk1, .int .i64 x.pc, .slice bq2 x.mem.length bk2, .int .i64 x.save, .bool x.lets, .bool x.waits, .int .i64 x.halt, .slice bq3 x.ins.length bk3, .slice bq4 x.outs.length bk4, .int .i64 x.count], x) List.mem_cons_self).1.r.cell 1 _ rfl
  have bc2 := (S.out.box (X2, [.slice bq1 x.regs.length bk1, .int .i64 x.pc, .slice bq2 x.mem.length bk2, .int .i64 x.save, .bool x.lets, .bool x.waits, .int .i64 x.halt, .slice bq3 x.ins.length bk3, .slice bq4 x.outs.length bk4, .int .i64 x.count], x) List.mem_cons_self).1.r.cell 2 _ rfl
  have bc3 := (S.out.box (X2, [.slice bq1 x.regs.length bk1, .int .i64 x.pc, .slice bq2 x.mem.length bk2, .int .i64 x.save, .bool x.lets, .bool x.waits, .int .i64 x.halt, .slice bq3 x.ins.length bk3, .slice bq4 x.outs.length bk4, .int .i64 x.count], x) List.mem_cons_self).1.r.cell 3 _ rfl
  have bc4 := (S.out.box (X2, [.slice bq1 x.regs.length bk1, .int .i64 x.pc, .slice bq2 x.mem.length bk2, .int .i64 x.save, .bool x.lets, .bool x.waits, .int .i64 x.halt, .slice bq3 x.ins.length bk3, .slice bq4 x.outs.length bk4, .int .i64 x.count], x) List.mem_cons_self).1.r.cell 4 _ rfl
  have bc5 := (S.out.box (X2, [.slice bq1 x.regs.length bk1, .int .i64 x.pc, .slice bq2 x.mem.length bk2, .int .i64 x.save, .bool x.lets, .bool x.waits, .int .i64 x.halt, .slice bq3 x.ins.length bk3, .slice bq4 x.outs.length bk4, .int .i64 x.count], x) List.mem_cons_self).1.r.cell 5 _ rfl
  have bc6 := (S.out.box (X2, [.slice bq1 x.regs.length bk1, .int .i64 x.pc, .slice bq2 x.mem.length bk2, .int .i64 x.save, .bool x.lets, .bool x.waits, .int .i64 x.halt, .slice bq3 x.ins.length bk3, .slice bq4 x.outs.length bk4, .int .i64 x.count], x) List.mem_cons_self).1.r.cell 6 _ rfl
  have bc7 := (S.out.box (X2, [.slice bq1 x.regs.length bk1, .int .i64 x.pc, .slice bq2 x.mem.length bk2, .int .i64 x.save, .bool x.lets, .bool x.waits, .int .i64 x.halt, .slice bq3 x.ins.length bk3, .slice bq4 x.outs.length bk4, .int .i64 x.count], x) List.mem_cons_self).1.r.cell 7 _ rfl
  have bc8 := (S.out.box (X2, [.slice bq1 x.regs.length bk1, .int .i64 x.pc, .slice bq2 x.mem.length bk2, .int .i64 x.save, .bool x.lets, .bool x.waits, .int .i64 x.halt, .slice bq3 x.ins.length bk3, .slice bq4 x.outs.length bk4, .int .i64 x.count], x) List.mem_cons_self).1.r.cell 8 _ rfl
  have bc9 := (S.out.box (X2, [.slice bq1 x.regs.length bk1, .int .i64 x.pc, .slice bq2 x.mem.length bk2, .int .i64 x.save, .bool x.lets, .bool x.waits, .int .i64 x.halt, .slice bq3 x.ins.length bk3, .slice bq4 x.outs.length bk4, .int .i64 x.count], x) List.mem_cons_self).1.r.cell 9 _ rfl
  go_wp2_with fail
  refine (Mch.mchOk m _ _ (S.out.box (X1, [.slice aq1 m.regs.length ak1, .int .i64 m.pc, .slice aq2 m.mem.length ak2, .int .i64 m.save, .bool m.lets, .bool m.waits, .int .i64 m.halt, .slice aq3 m.ins.length ak3, .slice aq4 m.outs.length ak4, .int .i64 m.count], m) (List.mem_cons_of_mem _ List.mem_cons_self)).2).mono ?_
  rintro e wv7 ⟨rfl, hb⟩
  rw [EO.out]
  have S2 := hide (S.out.below hb)
  clear S
  have S := S2
  clear S2
  clear hb
  clear ac0 ac1 ac2 ac3 ac4 ac5 ac6 ac7 ac8 ac9
  clear bc0 bc1 bc2 bc3 bc4 bc5 bc6 bc7 bc8 bc9
  cases ok with
  | false =>
    have EQ : x = emptyM := by rw [← EX.out]; exact run_no (fun h => by rw [EO.out] at h; cases h.1)
    have e0 : x.regs.length = 0 := by rw [EQ]; rfl
    have hq2 : (((x.regs.length : Nat) : Int) == 0) = true := by rw [e0]; rfl
    clear e0 EQ
    have ac0 := (S.out.box (X1, [.slice aq1 m.regs.length ak1, .int .i64 m.pc, .slice aq2 m.mem.length ak2, .int .i64 m.save, .bool m.lets, .bool m.waits, .int .i64 m.halt, .slice aq3 m.ins.length ak3, .slice aq4 m.outs.length ak4, .int .i64 m.count], m) (List.mem_cons_of_mem _ List.mem_cons_self)).1.r.cell 0 _ rfl
    have ac1 := (S.out.box (X1, [.slice aq1 m.regs.length ak1, .int .i64 m.pc, .slice aq2 m.mem.length ak2, .int .i64 m.save, .bool m.lets, .bool m.waits, .int .i64 m.halt, .slice aq3 m.ins.length ak3, .slice aq4 m.outs.length ak4, .int .i64 m.count], m) (List.mem_cons_of_mem _ List.mem_cons_self)).1.r.cell 1 _ rfl
    have ac2 := (S.out.box (X1, [.slice aq1 m.regs.length ak1, .int .i64 m.pc, .slice aq2 m.mem.length ak2, .int .i64 m.save, .bool m.lets, .bool m.waits, .int .i64 m.halt, .slice aq3 m.ins.length ak3, .slice aq4 m.outs.length ak4, .int .i64 m.count], m) (List.mem_cons_of_mem _ List.mem_cons_self)).1.r.cell 2 _ rfl
    have ac3 := (S.out.box (X1, [.slice aq1 m.regs.length ak1, .int .i64 m.pc, .slice aq2 m.mem.length ak2, .int .i64 m.save, .bool m.lets, .bool m.waits, .int .i64 m.halt, .slice aq3 m.ins.length ak3, .slice aq4 m.outs.length ak4, .int .i64 m.count], m) (List.mem_cons_of_mem _ List.mem_cons_self)).1.r.cell 3 _ rfl
    have ac4 := (S.out.box (X1, [.slice aq1 m.regs.length ak1, .int .i64 m.pc, .slice aq2 m.mem.length ak2, .int .i64 m.save, .bool m.lets, .bool m.waits, .int .i64 m.halt, .slice aq3 m.ins.length ak3, .slice aq4 m.outs.length ak4, .int .i64 m.count], m) (List.mem_cons_of_mem _ List.mem_cons_self)).1.r.cell 4 _ rfl
    have ac5 := (S.out.box (X1, [.slice aq1 m.regs.length ak1, .int .i64 m.pc, .slice aq2 m.mem.length ak2, .int .i64 m.save, .bool m.lets, .bool m.waits, .int .i64 m.halt, .slice aq3 m.ins.length ak3, .slice aq4 m.outs.length ak4, .int .i64 m.count], m) (List.mem_cons_of_mem _ List.mem_cons_self)).1.r.cell 5 _ rfl
    have ac6 := (S.out.box (X1, [.slice aq1 m.regs.length ak1, .int .i64 m.pc, .slice aq2 m.mem.length ak2, .int .i64 m.save, .bool m.lets, .bool m.waits, .int .i64 m.halt, .slice aq3 m.ins.length ak3, .slice aq4 m.outs.length ak4, .int .i64 m.count], m) (List.mem_cons_of_mem _ List.mem_cons_self)).1.r.cell 6 _ rfl
    have ac7 := (S.out.box (X1, [.slice aq1 m.regs.length ak1, .int .i64 m.pc, .slice aq2 m.mem.length ak2, .int .i64 m.save, .bool m.lets, .bool m.waits, .int .i64 m.halt, .slice aq3 m.ins.length ak3, .slice aq4 m.outs.length ak4, .int .i64 m.count], m) (List.mem_cons_of_mem _ List.mem_cons_self)).1.r.cell 7 _ rfl
    have ac8 := (S.out.box (X1, [.slice aq1 m.regs.length ak1, .int .i64 m.pc, .slice aq2 m.mem.length ak2, .int .i64 m.save, .bool m.lets, .bool m.waits, .int .i64 m.halt, .slice aq3 m.ins.length ak3, .slice aq4 m.outs.length ak4, .int .i64 m.count], m) (List.mem_cons_of_mem _ List.mem_cons_self)).1.r.cell 8 _ rfl
    have ac9 := (S.out.box (X1, [.slice aq1 m.regs.length ak1, .int .i64 m.pc, .slice aq2 m.mem.length ak2, .int .i64 m.save, .bool m.lets, .bool m.waits, .int .i64 m.halt, .slice aq3 m.ins.length ak3, .slice aq4 m.outs.length ak4, .int .i64 m.count], m) (List.mem_cons_of_mem _ List.mem_cons_self)).1.r.cell 9 _ rfl
    have bc0 := (S.out.box (X2, [.slice bq1 x.regs.length bk1, .int .i64 x.pc, .slice bq2 x.mem.length bk2, .int .i64 x.save, .bool x.lets, .bool x.waits, .int .i64 x.halt, .slice bq3 x.ins.length bk3, .slice bq4 x.outs.length bk4, .int .i64 x.count], x) List.mem_cons_self).1.r.cell 0 _ rfl
    have bc1 := (S.out.box (X2, [.slice bq1 x.regs.length bk1, .int .i64 x.pc, .slice bq2 x.mem.length bk2, .int .i64 x.save, .bool x.lets, .bool x.waits, .int .i64 x.halt, .slice bq3 x.ins.length bk3, .slice bq4 x.outs.length bk4, .int .i64 x.count], x) List.mem_cons_self).1.r.cell 1 _ rfl
    have bc2 := (S.out.box (X2, [.slice bq1 x.regs.length bk1, .int .i64 x.pc, .slice bq2 x.mem.length bk2, .int .i64 x.save, .bool x.lets, .bool x.waits, .int .i64 x.halt, .slice bq3 x.ins.length bk3, .slice bq4 x.outs.length bk4, .int .i64 x.count], x) List.mem_cons_self).1.r.cell 2 _ rfl
    have bc3 := (S.out.box (X2, [.slice bq1 x.regs.length bk1, .int .i64 x.pc, .slice bq2 x.mem.length bk2, .int .i64 x.save, .bool x.lets, .bool x.waits, .int .i64 x.halt, .slice bq3 x.ins.length bk3, .slice bq4 x.outs.length bk4, .int .i64 x.count], x) List.mem_cons_self).1.r.cell 3 _ rfl
    have bc4 := (S.out.box (X2, [.slice bq1 x.regs.length bk1, .int .i64 x.pc, .slice bq2 x.mem.length bk2, .int .i64 x.save, .bool x.lets, .bool x.waits, .int .i64 x.halt, .slice bq3 x.ins.length bk3, .slice bq4 x.outs.length bk4, .int .i64 x.count], x) List.mem_cons_self).1.r.cell 4 _ rfl
    have bc5 := (S.out.box (X2, [.slice bq1 x.regs.length bk1, .int .i64 x.pc, .slice bq2 x.mem.length bk2, .int .i64 x.save, .bool x.lets, .bool x.waits, .int .i64 x.halt, .slice bq3 x.ins.length bk3, .slice bq4 x.outs.length bk4, .int .i64 x.count], x) List.mem_cons_self).1.r.cell 5 _ rfl
    have bc6 := (S.out.box (X2, [.slice bq1 x.regs.length bk1, .int .i64 x.pc, .slice bq2 x.mem.length bk2, .int .i64 x.save, .bool x.lets, .bool x.waits, .int .i64 x.halt, .slice bq3 x.ins.length bk3, .slice bq4 x.outs.length bk4, .int .i64 x.count], x) List.mem_cons_self).1.r.cell 6 _ rfl
    have bc7 := (S.out.box (X2, [.slice bq1 x.regs.length bk1, .int .i64 x.pc, .slice bq2 x.mem.length bk2, .int .i64 x.save, .bool x.lets, .bool x.waits, .int .i64 x.halt, .slice bq3 x.ins.length bk3, .slice bq4 x.outs.length bk4, .int .i64 x.count], x) List.mem_cons_self).1.r.cell 7 _ rfl
    have bc8 := (S.out.box (X2, [.slice bq1 x.regs.length bk1, .int .i64 x.pc, .slice bq2 x.mem.length bk2, .int .i64 x.save, .bool x.lets, .bool x.waits, .int .i64 x.halt, .slice bq3 x.ins.length bk3, .slice bq4 x.outs.length bk4, .int .i64 x.count], x) List.mem_cons_self).1.r.cell 8 _ rfl
    have bc9 := (S.out.box (X2, [.slice bq1 x.regs.length bk1, .int .i64 x.pc, .slice bq2 x.mem.length bk2, .int .i64 x.save, .bool x.lets, .bool x.waits, .int .i64 x.halt, .slice bq3 x.ins.length bk3, .slice bq4 x.outs.length bk4, .int .i64 x.count], x) List.mem_cons_self).1.r.cell 9 _ rfl
    go_wp2_with fail
    refine (La.laOk _).mono ?_
    rintro e u ⟨rfl, rfl⟩
    have FIN := hide S.out.bw
    clear S
    go_wp2
    go_ret
    exact ⟨rfl, FIN.out⟩
  | true =>
    by_cases h4 : 400 < n
    · have EQ : x = emptyM := by rw [← EX.out]; exact run_no (fun h => by have := h.2; omega)
      have e0 : x.regs.length = 0 := by rw [EQ]; rfl
      have hq2 : (((x.regs.length : Nat) : Int) == 0) = true := by rw [e0]; rfl
      clear e0 EQ
      have ac0 := (S.out.box (X1, [.slice aq1 m.regs.length ak1, .int .i64 m.pc, .slice aq2 m.mem.length ak2, .int .i64 m.save, .bool m.lets, .bool m.waits, .int .i64 m.halt, .slice aq3 m.ins.length ak3, .slice aq4 m.outs.length ak4, .int .i64 m.count], m) (List.mem_cons_of_mem _ List.mem_cons_self)).1.r.cell 0 _ rfl
      have ac1 := (S.out.box (X1, [.slice aq1 m.regs.length ak1, .int .i64 m.pc, .slice aq2 m.mem.length ak2, .int .i64 m.save, .bool m.lets, .bool m.waits, .int .i64 m.halt, .slice aq3 m.ins.length ak3, .slice aq4 m.outs.length ak4, .int .i64 m.count], m) (List.mem_cons_of_mem _ List.mem_cons_self)).1.r.cell 1 _ rfl
      have ac2 := (S.out.box (X1, [.slice aq1 m.regs.length ak1, .int .i64 m.pc, .slice aq2 m.mem.length ak2, .int .i64 m.save, .bool m.lets, .bool m.waits, .int .i64 m.halt, .slice aq3 m.ins.length ak3, .slice aq4 m.outs.length ak4, .int .i64 m.count], m) (List.mem_cons_of_mem _ List.mem_cons_self)).1.r.cell 2 _ rfl
      have ac3 := (S.out.box (X1, [.slice aq1 m.regs.length ak1, .int .i64 m.pc, .slice aq2 m.mem.length ak2, .int .i64 m.save, .bool m.lets, .bool m.waits, .int .i64 m.halt, .slice aq3 m.ins.length ak3, .slice aq4 m.outs.length ak4, .int .i64 m.count], m) (List.mem_cons_of_mem _ List.mem_cons_self)).1.r.cell 3 _ rfl
      have ac4 := (S.out.box (X1, [.slice aq1 m.regs.length ak1, .int .i64 m.pc, .slice aq2 m.mem.length ak2, .int .i64 m.save, .bool m.lets, .bool m.waits, .int .i64 m.halt, .slice aq3 m.ins.length ak3, .slice aq4 m.outs.length ak4, .int .i64 m.count], m) (List.mem_cons_of_mem _ List.mem_cons_self)).1.r.cell 4 _ rfl
      have ac5 := (S.out.box (X1, [.slice aq1 m.regs.length ak1, .int .i64 m.pc, .slice aq2 m.mem.length ak2, .int .i64 m.save, .bool m.lets, .bool m.waits, .int .i64 m.halt, .slice aq3 m.ins.length ak3, .slice aq4 m.outs.length ak4, .int .i64 m.count], m) (List.mem_cons_of_mem _ List.mem_cons_self)).1.r.cell 5 _ rfl
      have ac6 := (S.out.box (X1, [.slice aq1 m.regs.length ak1, .int .i64 m.pc, .slice aq2 m.mem.length ak2, .int .i64 m.save, .bool m.lets, .bool m.waits, .int .i64 m.halt, .slice aq3 m.ins.length ak3, .slice aq4 m.outs.length ak4, .int .i64 m.count], m) (List.mem_cons_of_mem _ List.mem_cons_self)).1.r.cell 6 _ rfl
      have ac7 := (S.out.box (X1, [.slice aq1 m.regs.length ak1, .int .i64 m.pc, .slice aq2 m.mem.length ak2, .int .i64 m.save, .bool m.lets, .bool m.waits, .int .i64 m.halt, .slice aq3 m.ins.length ak3, .slice aq4 m.outs.length ak4, .int .i64 m.count], m) (List.mem_cons_of_mem _ List.mem_cons_self)).1.r.cell 7 _ rfl
      have ac8 := (S.out.box (X1, [.slice aq1 m.regs.length ak1, .int .i64 m.pc, .slice aq2 m.mem.length ak2, .int .i64 m.save, .bool m.lets, .bool m.waits, .int .i64 m.halt, .slice aq3 m.ins.length ak3, .slice aq4 m.outs.length ak4, .int .i64 m.count], m) (List.mem_cons_of_mem _ List.mem_cons_self)).1.r.cell 8 _ rfl
      have ac9 := (S.out.box (X1, [.slice aq1 m.regs.length ak1, .int .i64 m.pc, .slice aq2 m.mem.length ak2, .int .i64 m.save, .bool m.lets, .bool m.waits, .int .i64 m.halt, .slice aq3 m.ins.length ak3, .slice aq4 m.outs.length ak4, .int .i64 m.count], m) (List.mem_cons_of_mem _ List.mem_cons_self)).1.r.cell 9 _ rfl
      have bc0 := (S.out.box (X2, [.slice bq1 x.regs.length bk1, .int .i64 x.pc, .slice bq2 x.mem.length bk2, .int .i64 x.save, .bool x.lets, .bool x.waits, .int .i64 x.halt, .slice bq3 x.ins.length bk3, .slice bq4 x.outs.length bk4, .int .i64 x.count], x) List.mem_cons_self).1.r.cell 0 _ rfl
      have bc1 := (S.out.box (X2, [.slice bq1 x.regs.length bk1, .int .i64 x.pc, .slice bq2 x.mem.length bk2, .int .i64 x.save, .bool x.lets, .bool x.waits, .int .i64 x.halt, .slice bq3 x.ins.length bk3, .slice bq4 x.outs.length bk4, .int .i64 x.count], x) List.mem_cons_self).1.r.cell 1 _ rfl
      have bc2 := (S.out.box (X2, [.slice bq1 x.regs.length bk1, .int .i64 x.pc, .slice bq2 x.mem.length bk2, .int .i64 x.save, .bool x.lets, .bool x.waits, .int .i64 x.halt, .slice bq3 x.ins.length bk3, .slice bq4 x.outs.length bk4, .int .i64 x.count], x) List.mem_cons_self).1.r.cell 2 _ rfl
      have bc3 := (S.out.box (X2, [.slice bq1 x.regs.length bk1, .int .i64 x.pc, .slice bq2 x.mem.length bk2, .int .i64 x.save, .bool x.lets, .bool x.waits, .int .i64 x.halt, .slice bq3 x.ins.length bk3, .slice bq4 x.outs.length bk4, .int .i64 x.count], x) List.mem_cons_self).1.r.cell 3 _ rfl
      have bc4 := (S.out.box (X2, [.slice bq1 x.regs.length bk1, .int .i64 x.pc, .slice bq2 x.mem.length bk2, .int .i64 x.save, .bool x.lets, .bool x.waits, .int .i64 x.halt, .slice bq3 x.ins.length bk3, .slice bq4 x.outs.length bk4, .int .i64 x.count], x) List.mem_cons_self).1.r.cell 4 _ rfl
      have bc5 := (S.out.box (X2, [.slice bq1 x.regs.length bk1, .int .i64 x.pc, .slice bq2 x.mem.length bk2, .int .i64 x.save, .bool x.lets, .bool x.waits, .int .i64 x.halt, .slice bq3 x.ins.length bk3, .slice bq4 x.outs.length bk4, .int .i64 x.count], x) List.mem_cons_self).1.r.cell 5 _ rfl
      have bc6 := (S.out.box (X2, [.slice bq1 x.regs.length bk1, .int .i64 x.pc, .slice bq2 x.mem.length bk2, .int .i64 x.save, .bool x.lets, .bool x.waits, .int .i64 x.halt, .slice bq3 x.ins.length bk3, .slice bq4 x.outs.length bk4, .int .i64 x.count], x) List.mem_cons_self).1.r.cell 6 _ rfl
      have bc7 := (S.out.box (X2, [.slice bq1 x.regs.length bk1, .int .i64 x.pc, .slice bq2 x.mem.length bk2, .int .i64 x.save, .bool x.lets, .bool x.waits, .int .i64 x.halt, .slice bq3 x.ins.length bk3, .slice bq4 x.outs.length bk4, .int .i64 x.count], x) List.mem_cons_self).1.r.cell 7 _ rfl
      have bc8 := (S.out.box (X2, [.slice bq1 x.regs.length bk1, .int .i64 x.pc, .slice bq2 x.mem.length bk2, .int .i64 x.save, .bool x.lets, .bool x.waits, .int .i64 x.halt, .slice bq3 x.ins.length bk3, .slice bq4 x.outs.length bk4, .int .i64 x.count], x) List.mem_cons_self).1.r.cell 8 _ rfl
      have bc9 := (S.out.box (X2, [.slice bq1 x.regs.length bk1, .int .i64 x.pc, .slice bq2 x.mem.length bk2, .int .i64 x.save, .bool x.lets, .bool x.waits, .int .i64 x.halt, .slice bq3 x.ins.length bk3, .slice bq4 x.outs.length bk4, .int .i64 x.count], x) List.mem_cons_self).1.r.cell 9 _ rfl
      go_wp2_with fail
      refine (La.laOk _).mono ?_
      rintro e u ⟨rfl, rfl⟩
      have FIN := hide S.out.bw
      clear S
      go_wp2
      go_ret
      exact ⟨rfl, FIN.out⟩
    have CB := (okM_of EO.out).c
    by_cases h1 : n < 1
    · have exm : x = m := by rw [← EX.out]; exact run_small EO.out xs h1
      subst exm
      have bc0 := (S.out.box (X2, [.slice bq1 x.regs.length bk1, .int .i64 x.pc, .slice bq2 x.mem.length bk2, .int .i64 x.save, .bool x.lets, .bool x.waits, .int .i64 x.halt, .slice bq3 x.ins.length bk3, .slice bq4 x.outs.length bk4, .int .i64 x.count], x) List.mem_cons_self).1.r.cell 0 _ rfl
      have bc1 := (S.out.box (X2, [.slice bq1 x.regs.length bk1, .int .i64 x.pc, .slice bq2 x.mem.length bk2, .int .i64 x.save, .bool x.lets, .bool x.waits, .int .i64 x.halt, .slice bq3 x.ins.length bk3, .slice bq4 x.outs.length bk4, .int .i64 x.count], x) List.mem_cons_self).1.r.cell 1 _ rfl
      have bc2 := (S.out.box (X2, [.slice bq1 x.regs.length bk1, .int .i64 x.pc, .slice bq2 x.mem.length bk2, .int .i64 x.save, .bool x.lets, .bool x.waits, .int .i64 x.halt, .slice bq3 x.ins.length bk3, .slice bq4 x.outs.length bk4, .int .i64 x.count], x) List.mem_cons_self).1.r.cell 2 _ rfl
      have bc3 := (S.out.box (X2, [.slice bq1 x.regs.length bk1, .int .i64 x.pc, .slice bq2 x.mem.length bk2, .int .i64 x.save, .bool x.lets, .bool x.waits, .int .i64 x.halt, .slice bq3 x.ins.length bk3, .slice bq4 x.outs.length bk4, .int .i64 x.count], x) List.mem_cons_self).1.r.cell 3 _ rfl
      have bc4 := (S.out.box (X2, [.slice bq1 x.regs.length bk1, .int .i64 x.pc, .slice bq2 x.mem.length bk2, .int .i64 x.save, .bool x.lets, .bool x.waits, .int .i64 x.halt, .slice bq3 x.ins.length bk3, .slice bq4 x.outs.length bk4, .int .i64 x.count], x) List.mem_cons_self).1.r.cell 4 _ rfl
      have bc5 := (S.out.box (X2, [.slice bq1 x.regs.length bk1, .int .i64 x.pc, .slice bq2 x.mem.length bk2, .int .i64 x.save, .bool x.lets, .bool x.waits, .int .i64 x.halt, .slice bq3 x.ins.length bk3, .slice bq4 x.outs.length bk4, .int .i64 x.count], x) List.mem_cons_self).1.r.cell 5 _ rfl
      have bc6 := (S.out.box (X2, [.slice bq1 x.regs.length bk1, .int .i64 x.pc, .slice bq2 x.mem.length bk2, .int .i64 x.save, .bool x.lets, .bool x.waits, .int .i64 x.halt, .slice bq3 x.ins.length bk3, .slice bq4 x.outs.length bk4, .int .i64 x.count], x) List.mem_cons_self).1.r.cell 6 _ rfl
      have bc7 := (S.out.box (X2, [.slice bq1 x.regs.length bk1, .int .i64 x.pc, .slice bq2 x.mem.length bk2, .int .i64 x.save, .bool x.lets, .bool x.waits, .int .i64 x.halt, .slice bq3 x.ins.length bk3, .slice bq4 x.outs.length bk4, .int .i64 x.count], x) List.mem_cons_self).1.r.cell 7 _ rfl
      have bc8 := (S.out.box (X2, [.slice bq1 x.regs.length bk1, .int .i64 x.pc, .slice bq2 x.mem.length bk2, .int .i64 x.save, .bool x.lets, .bool x.waits, .int .i64 x.halt, .slice bq3 x.ins.length bk3, .slice bq4 x.outs.length bk4, .int .i64 x.count], x) List.mem_cons_self).1.r.cell 8 _ rfl
      have bc9 := (S.out.box (X2, [.slice bq1 x.regs.length bk1, .int .i64 x.pc, .slice bq2 x.mem.length bk2, .int .i64 x.save, .bool x.lets, .bool x.waits, .int .i64 x.halt, .slice bq3 x.ins.length bk3, .slice bq4 x.outs.length bk4, .int .i64 x.count], x) List.mem_cons_self).1.r.cell 9 _ rfl
      have ac0 := (S.out.box (X1, [.slice aq1 x.regs.length ak1, .int .i64 x.pc, .slice aq2 x.mem.length ak2, .int .i64 x.save, .bool x.lets, .bool x.waits, .int .i64 x.halt, .slice aq3 x.ins.length ak3, .slice aq4 x.outs.length ak4, .int .i64 x.count], x) (List.mem_cons_of_mem _ List.mem_cons_self)).1.r.cell 0 _ rfl
      have ac1 := (S.out.box (X1, [.slice aq1 x.regs.length ak1, .int .i64 x.pc, .slice aq2 x.mem.length ak2, .int .i64 x.save, .bool x.lets, .bool x.waits, .int .i64 x.halt, .slice aq3 x.ins.length ak3, .slice aq4 x.outs.length ak4, .int .i64 x.count], x) (List.mem_cons_of_mem _ List.mem_cons_self)).1.r.cell 1 _ rfl
      have ac2 := (S.out.box (X1, [.slice aq1 x.regs.length ak1, .int .i64 x.pc, .slice aq2 x.mem.length ak2, .int .i64 x.save, .bool x.lets, .bool x.waits, .int .i64 x.halt, .slice aq3 x.ins.length ak3, .slice aq4 x.outs.length ak4, .int .i64 x.count], x) (List.mem_cons_of_mem _ List.mem_cons_self)).1.r.cell 2 _ rfl
      have ac3 := (S.out.box (X1, [.slice aq1 x.regs.length ak1, .int .i64 x.pc, .slice aq2 x.mem.length ak2, .int .i64 x.save, .bool x.lets, .bool x.waits, .int .i64 x.halt, .slice aq3 x.ins.length ak3, .slice aq4 x.outs.length ak4, .int .i64 x.count], x) (List.mem_cons_of_mem _ List.mem_cons_self)).1.r.cell 3 _ rfl
      have ac4 := (S.out.box (X1, [.slice aq1 x.regs.length ak1, .int .i64 x.pc, .slice aq2 x.mem.length ak2, .int .i64 x.save, .bool x.lets, .bool x.waits, .int .i64 x.halt, .slice aq3 x.ins.length ak3, .slice aq4 x.outs.length ak4, .int .i64 x.count], x) (List.mem_cons_of_mem _ List.mem_cons_self)).1.r.cell 4 _ rfl
      have ac5 := (S.out.box (X1, [.slice aq1 x.regs.length ak1, .int .i64 x.pc, .slice aq2 x.mem.length ak2, .int .i64 x.save, .bool x.lets, .bool x.waits, .int .i64 x.halt, .slice aq3 x.ins.length ak3, .slice aq4 x.outs.length ak4, .int .i64 x.count], x) (List.mem_cons_of_mem _ List.mem_cons_self)).1.r.cell 5 _ rfl
      have ac6 := (S.out.box (X1, [.slice aq1 x.regs.length ak1, .int .i64 x.pc, .slice aq2 x.mem.length ak2, .int .i64 x.save, .bool x.lets, .bool x.waits, .int .i64 x.halt, .slice aq3 x.ins.length ak3, .slice aq4 x.outs.length ak4, .int .i64 x.count], x) (List.mem_cons_of_mem _ List.mem_cons_self)).1.r.cell 6 _ rfl
      have ac7 := (S.out.box (X1, [.slice aq1 x.regs.length ak1, .int .i64 x.pc, .slice aq2 x.mem.length ak2, .int .i64 x.save, .bool x.lets, .bool x.waits, .int .i64 x.halt, .slice aq3 x.ins.length ak3, .slice aq4 x.outs.length ak4, .int .i64 x.count], x) (List.mem_cons_of_mem _ List.mem_cons_self)).1.r.cell 7 _ rfl
      have ac8 := (S.out.box (X1, [.slice aq1 x.regs.length ak1, .int .i64 x.pc, .slice aq2 x.mem.length ak2, .int .i64 x.save, .bool x.lets, .bool x.waits, .int .i64 x.halt, .slice aq3 x.ins.length ak3, .slice aq4 x.outs.length ak4, .int .i64 x.count], x) (List.mem_cons_of_mem _ List.mem_cons_self)).1.r.cell 8 _ rfl
      have ac9 := (S.out.box (X1, [.slice aq1 x.regs.length ak1, .int .i64 x.pc, .slice aq2 x.mem.length ak2, .int .i64 x.save, .bool x.lets, .bool x.waits, .int .i64 x.halt, .slice aq3 x.ins.length ak3, .slice aq4 x.outs.length ak4, .int .i64 x.count], x) (List.mem_cons_of_mem _ List.mem_cons_self)).1.r.cell 9 _ rfl
      clear CB
      go_wp2_with fail
      refine (La.laMach x _ _ _ (S.out.box (X2, [.slice bq1 x.regs.length bk1, .int .i64 x.pc, .slice bq2 x.mem.length bk2, .int .i64 x.save, .bool x.lets, .bool x.waits, .int .i64 x.halt, .slice bq3 x.ins.length bk3, .slice bq4 x.outs.length bk4, .int .i64 x.count], x) List.mem_cons_self).2 (S.out.box (X1, [.slice aq1 x.regs.length ak1, .int .i64 x.pc, .slice aq2 x.mem.length ak2, .int .i64 x.save, .bool x.lets, .bool x.waits, .int .i64 x.halt, .slice aq3 x.ins.length ak3, .slice aq4 x.outs.length ak4, .int .i64 x.count], x) (List.mem_cons_of_mem _ List.mem_cons_self)).2).mono ?_
      rintro e uu ⟨rfl, hb⟩
      have S2 := hide (S.out.below hb)
      clear S hb
      have S := S2
      clear S2
      clear bc0 bc1 bc2 bc3 bc4 bc5 bc6 bc7 bc8 bc9
      clear ac0 ac1 ac2 ac3 ac4 ac5 ac6 ac7 ac8 ac9
      have FIN := hide S.out.bw
      clear S
      go_wp2
      go_ret
      exact ⟨rfl, FIN.out⟩
    obtain ⟨N, rfl⟩ : ∃ N : Nat, n = N := ⟨n.toNat, by omega⟩
    obtain ⟨H, Kq, hH, hK, hq1, hq2⟩ : ∃ H Kq : Nat, N = H + Kq ∧ H ≤ 400 ∧ (N : Int).tdiv 2 = (H : Int) ∧ (N : Int) / 2 = (H : Int) := ⟨N / 2, N - N / 2, by omega, by omega, by rw [Int.tdiv_eq_ediv_of_nonneg (by omega)]; omega, by omega⟩
    have hs : (N : Int) - (H : Int) = (Kq : Int) := by omega
    have hw1 : IntKind.i64.wrap (Kq : Int) = (Kq : Int) := IntWalk.i64_in _ ⟨by omega, by omega⟩
    have N4 : N ≤ 400 := by omega
    have K4 : Kq ≤ 400 := by omega
    have HH := hide hH
    obtain ⟨y, ey⟩ : ∃ y, runOf m xs (H : Int) = y := ⟨_, rfl⟩
    have EY := hide ey
    have EYX : Hid (runOf y xs (Kq : Int) = x) := show _ = _ by rw [← ey, run_half EO.out xs (by omega), ← hH]; exact EX.out
    have NY : Hid (Near y) := by rw [← ey, run_of EO.out xs hK]; exact near_run EO.out FM.out xs (by omega)
    have RC := run_count xs N m EO.out
    have RE := run_end xs N m EO.out
    rw [← run_of EO.out xs N4, EX.out] at RC RE
    have hgt : ¬ (m.count + (N : Int)) < x.count := by omega
    have RE2 := hide RE
    clear hH ey RC RE h4
    have ac0 := (S.out.box (X1, [.slice aq1 m.regs.length ak1, .int .i64 m.pc, .slice aq2 m.mem.length ak2, .int .i64 m.save, .bool m.lets, .bool m.waits, .int .i64 m.halt, .slice aq3 m.ins.length ak3, .slice aq4 m.outs.length ak4, .int .i64 m.count], m) (List.mem_cons_of_mem _ List.mem_cons_self)).1.r.cell 0 _ rfl
    have ac1 := (S.out.box (X1, [.slice aq1 m.regs.length ak1, .int .i64 m.pc, .slice aq2 m.mem.length ak2, .int .i64 m.save, .bool m.lets, .bool m.waits, .int .i64 m.halt, .slice aq3 m.ins.length ak3, .slice aq4 m.outs.length ak4, .int .i64 m.count], m) (List.mem_cons_of_mem _ List.mem_cons_self)).1.r.cell 1 _ rfl
    have ac2 := (S.out.box (X1, [.slice aq1 m.regs.length ak1, .int .i64 m.pc, .slice aq2 m.mem.length ak2, .int .i64 m.save, .bool m.lets, .bool m.waits, .int .i64 m.halt, .slice aq3 m.ins.length ak3, .slice aq4 m.outs.length ak4, .int .i64 m.count], m) (List.mem_cons_of_mem _ List.mem_cons_self)).1.r.cell 2 _ rfl
    have ac3 := (S.out.box (X1, [.slice aq1 m.regs.length ak1, .int .i64 m.pc, .slice aq2 m.mem.length ak2, .int .i64 m.save, .bool m.lets, .bool m.waits, .int .i64 m.halt, .slice aq3 m.ins.length ak3, .slice aq4 m.outs.length ak4, .int .i64 m.count], m) (List.mem_cons_of_mem _ List.mem_cons_self)).1.r.cell 3 _ rfl
    have ac4 := (S.out.box (X1, [.slice aq1 m.regs.length ak1, .int .i64 m.pc, .slice aq2 m.mem.length ak2, .int .i64 m.save, .bool m.lets, .bool m.waits, .int .i64 m.halt, .slice aq3 m.ins.length ak3, .slice aq4 m.outs.length ak4, .int .i64 m.count], m) (List.mem_cons_of_mem _ List.mem_cons_self)).1.r.cell 4 _ rfl
    have ac5 := (S.out.box (X1, [.slice aq1 m.regs.length ak1, .int .i64 m.pc, .slice aq2 m.mem.length ak2, .int .i64 m.save, .bool m.lets, .bool m.waits, .int .i64 m.halt, .slice aq3 m.ins.length ak3, .slice aq4 m.outs.length ak4, .int .i64 m.count], m) (List.mem_cons_of_mem _ List.mem_cons_self)).1.r.cell 5 _ rfl
    have ac6 := (S.out.box (X1, [.slice aq1 m.regs.length ak1, .int .i64 m.pc, .slice aq2 m.mem.length ak2, .int .i64 m.save, .bool m.lets, .bool m.waits, .int .i64 m.halt, .slice aq3 m.ins.length ak3, .slice aq4 m.outs.length ak4, .int .i64 m.count], m) (List.mem_cons_of_mem _ List.mem_cons_self)).1.r.cell 6 _ rfl
    have ac7 := (S.out.box (X1, [.slice aq1 m.regs.length ak1, .int .i64 m.pc, .slice aq2 m.mem.length ak2, .int .i64 m.save, .bool m.lets, .bool m.waits, .int .i64 m.halt, .slice aq3 m.ins.length ak3, .slice aq4 m.outs.length ak4, .int .i64 m.count], m) (List.mem_cons_of_mem _ List.mem_cons_self)).1.r.cell 7 _ rfl
    have ac8 := (S.out.box (X1, [.slice aq1 m.regs.length ak1, .int .i64 m.pc, .slice aq2 m.mem.length ak2, .int .i64 m.save, .bool m.lets, .bool m.waits, .int .i64 m.halt, .slice aq3 m.ins.length ak3, .slice aq4 m.outs.length ak4, .int .i64 m.count], m) (List.mem_cons_of_mem _ List.mem_cons_self)).1.r.cell 8 _ rfl
    have ac9 := (S.out.box (X1, [.slice aq1 m.regs.length ak1, .int .i64 m.pc, .slice aq2 m.mem.length ak2, .int .i64 m.save, .bool m.lets, .bool m.waits, .int .i64 m.halt, .slice aq3 m.ins.length ak3, .slice aq4 m.outs.length ak4, .int .i64 m.count], m) (List.mem_cons_of_mem _ List.mem_cons_self)).1.r.cell 9 _ rfl
    have bc0 := (S.out.box (X2, [.slice bq1 x.regs.length bk1, .int .i64 x.pc, .slice bq2 x.mem.length bk2, .int .i64 x.save, .bool x.lets, .bool x.waits, .int .i64 x.halt, .slice bq3 x.ins.length bk3, .slice bq4 x.outs.length bk4, .int .i64 x.count], x) List.mem_cons_self).1.r.cell 0 _ rfl
    have bc1 := (S.out.box (X2, [.slice bq1 x.regs.length bk1, .int .i64 x.pc, .slice bq2 x.mem.length bk2, .int .i64 x.save, .bool x.lets, .bool x.waits, .int .i64 x.halt, .slice bq3 x.ins.length bk3, .slice bq4 x.outs.length bk4, .int .i64 x.count], x) List.mem_cons_self).1.r.cell 1 _ rfl
    have bc2 := (S.out.box (X2, [.slice bq1 x.regs.length bk1, .int .i64 x.pc, .slice bq2 x.mem.length bk2, .int .i64 x.save, .bool x.lets, .bool x.waits, .int .i64 x.halt, .slice bq3 x.ins.length bk3, .slice bq4 x.outs.length bk4, .int .i64 x.count], x) List.mem_cons_self).1.r.cell 2 _ rfl
    have bc3 := (S.out.box (X2, [.slice bq1 x.regs.length bk1, .int .i64 x.pc, .slice bq2 x.mem.length bk2, .int .i64 x.save, .bool x.lets, .bool x.waits, .int .i64 x.halt, .slice bq3 x.ins.length bk3, .slice bq4 x.outs.length bk4, .int .i64 x.count], x) List.mem_cons_self).1.r.cell 3 _ rfl
    have bc4 := (S.out.box (X2, [.slice bq1 x.regs.length bk1, .int .i64 x.pc, .slice bq2 x.mem.length bk2, .int .i64 x.save, .bool x.lets, .bool x.waits, .int .i64 x.halt, .slice bq3 x.ins.length bk3, .slice bq4 x.outs.length bk4, .int .i64 x.count], x) List.mem_cons_self).1.r.cell 4 _ rfl
    have bc5 := (S.out.box (X2, [.slice bq1 x.regs.length bk1, .int .i64 x.pc, .slice bq2 x.mem.length bk2, .int .i64 x.save, .bool x.lets, .bool x.waits, .int .i64 x.halt, .slice bq3 x.ins.length bk3, .slice bq4 x.outs.length bk4, .int .i64 x.count], x) List.mem_cons_self).1.r.cell 5 _ rfl
    have bc6 := (S.out.box (X2, [.slice bq1 x.regs.length bk1, .int .i64 x.pc, .slice bq2 x.mem.length bk2, .int .i64 x.save, .bool x.lets, .bool x.waits, .int .i64 x.halt, .slice bq3 x.ins.length bk3, .slice bq4 x.outs.length bk4, .int .i64 x.count], x) List.mem_cons_self).1.r.cell 6 _ rfl
    have bc7 := (S.out.box (X2, [.slice bq1 x.regs.length bk1, .int .i64 x.pc, .slice bq2 x.mem.length bk2, .int .i64 x.save, .bool x.lets, .bool x.waits, .int .i64 x.halt, .slice bq3 x.ins.length bk3, .slice bq4 x.outs.length bk4, .int .i64 x.count], x) List.mem_cons_self).1.r.cell 7 _ rfl
    have bc8 := (S.out.box (X2, [.slice bq1 x.regs.length bk1, .int .i64 x.pc, .slice bq2 x.mem.length bk2, .int .i64 x.save, .bool x.lets, .bool x.waits, .int .i64 x.halt, .slice bq3 x.ins.length bk3, .slice bq4 x.outs.length bk4, .int .i64 x.count], x) List.mem_cons_self).1.r.cell 8 _ rfl
    have bc9 := (S.out.box (X2, [.slice bq1 x.regs.length bk1, .int .i64 x.pc, .slice bq2 x.mem.length bk2, .int .i64 x.save, .bool x.lets, .bool x.waits, .int .i64 x.halt, .slice bq3 x.ins.length bk3, .slice bq4 x.outs.length bk4, .int .i64 x.count], x) List.mem_cons_self).1.r.cell 9 _ rfl
    go_wp2_with fail
    clear ac0 ac1 ac2 ac3 ac4 ac5 ac6 ac7 ac8 ac9
    clear bc0 bc1 bc2 bc3 bc4 bc5 bc6 bc7 bc8 bc9
    refine (wpIn_wide (n := 0)).1 ?_
    have S2 := hide S.out.drew
    clear S
    have S := S2
    clear S2
    refine PhaseIn.region (S := fun v => Sit w [(X2, [.slice bq1 x.regs.length bk1, .int .i64 x.pc, .slice bq2 x.mem.length bk2, .int .i64 x.save, .bool x.lets, .bool x.waits, .int .i64 x.halt, .slice bq3 x.ins.length bk3, .slice bq4 x.outs.length bk4, .int .i64 x.count], x), (X1, [.slice aq1 m.regs.length ak1, .int .i64 m.pc, .slice aq2 m.mem.length ak2, .int .i64 m.save, .bool m.lets, .bool m.waits, .int .i64 m.halt, .slice aq3 m.ins.length ak3, .slice aq4 m.outs.length ak4, .int .i64 m.count], m)] [(Bi, (.slice qi li ci), xs)] v) 21 (by kernel_rfl) ?_
    generalize wv7.drew = wv8 at *
    have hHeld := S.out
    clear S
    refine PhaseIn.takeD (i := 0) (v := ?_) [0, 3, 8, 10, 11, 12, 13, 14, 15, 16, 17, 18, 19, 20] 49 rfl (by rfl) (by kernel_rfl) (by kernel_rfl) (by kernel_rfl) (by kernel_rfl) (by kernel_rfl) (fun _ _ _ h => h) (Or.inl ⟨by kernel_rfl, ?_⟩) hHeld ?_
    rotate_left
    · intro w' hSw
      (try dsimp only at hSw)
      have z0 := (hSw.box (X1, [.slice aq1 m.regs.length ak1, .int .i64 m.pc, .slice aq2 m.mem.length ak2, .int .i64 m.save, .bool m.lets, .bool m.waits, .int .i64 m.halt, .slice aq3 m.ins.length ak3, .slice aq4 m.outs.length ak4, .int .i64 m.count], m) (List.mem_cons_of_mem _ List.mem_cons_self)).1.r.cell 0 _ rfl
      have z1 := (hSw.box (X1, [.slice aq1 m.regs.length ak1, .int .i64 m.pc, .slice aq2 m.mem.length ak2, .int .i64 m.save, .bool m.lets, .bool m.waits, .int .i64 m.halt, .slice aq3 m.ins.length ak3, .slice aq4 m.outs.length ak4, .int .i64 m.count], m) (List.mem_cons_of_mem _ List.mem_cons_self)).1.r.cell 1 _ rfl
      have z2 := (hSw.box (X1, [.slice aq1 m.regs.length ak1, .int .i64 m.pc, .slice aq2 m.mem.length ak2, .int .i64 m.save, .bool m.lets, .bool m.waits, .int .i64 m.halt, .slice aq3 m.ins.length ak3, .slice aq4 m.outs.length ak4, .int .i64 m.count], m) (List.mem_cons_of_mem _ List.mem_cons_self)).1.r.cell 2 _ rfl
      have z3 := (hSw.box (X1, [.slice aq1 m.regs.length ak1, .int .i64 m.pc, .slice aq2 m.mem.length ak2, .int .i64 m.save, .bool m.lets, .bool m.waits, .int .i64 m.halt, .slice aq3 m.ins.length ak3, .slice aq4 m.outs.length ak4, .int .i64 m.count], m) (List.mem_cons_of_mem _ List.mem_cons_self)).1.r.cell 3 _ rfl
      have z4 := (hSw.box (X1, [.slice aq1 m.regs.length ak1, .int .i64 m.pc, .slice aq2 m.mem.length ak2, .int .i64 m.save, .bool m.lets, .bool m.waits, .int .i64 m.halt, .slice aq3 m.ins.length ak3, .slice aq4 m.outs.length ak4, .int .i64 m.count], m) (List.mem_cons_of_mem _ List.mem_cons_self)).1.r.cell 4 _ rfl
      have z5 := (hSw.box (X1, [.slice aq1 m.regs.length ak1, .int .i64 m.pc, .slice aq2 m.mem.length ak2, .int .i64 m.save, .bool m.lets, .bool m.waits, .int .i64 m.halt, .slice aq3 m.ins.length ak3, .slice aq4 m.outs.length ak4, .int .i64 m.count], m) (List.mem_cons_of_mem _ List.mem_cons_self)).1.r.cell 5 _ rfl
      have z6 := (hSw.box (X1, [.slice aq1 m.regs.length ak1, .int .i64 m.pc, .slice aq2 m.mem.length ak2, .int .i64 m.save, .bool m.lets, .bool m.waits, .int .i64 m.halt, .slice aq3 m.ins.length ak3, .slice aq4 m.outs.length ak4, .int .i64 m.count], m) (List.mem_cons_of_mem _ List.mem_cons_self)).1.r.cell 6 _ rfl
      have z7 := (hSw.box (X1, [.slice aq1 m.regs.length ak1, .int .i64 m.pc, .slice aq2 m.mem.length ak2, .int .i64 m.save, .bool m.lets, .bool m.waits, .int .i64 m.halt, .slice aq3 m.ins.length ak3, .slice aq4 m.outs.length ak4, .int .i64 m.count], m) (List.mem_cons_of_mem _ List.mem_cons_self)).1.r.cell 7 _ rfl
      have z8 := (hSw.box (X1, [.slice aq1 m.regs.length ak1, .int .i64 m.pc, .slice aq2 m.mem.length ak2, .int .i64 m.save, .bool m.lets, .bool m.waits, .int .i64 m.halt, .slice aq3 m.ins.length ak3, .slice aq4 m.outs.length ak4, .int .i64 m.count], m) (List.mem_cons_of_mem _ List.mem_cons_self)).1.r.cell 8 _ rfl
      have z9 := (hSw.box (X1, [.slice aq1 m.regs.length ak1, .int .i64 m.pc, .slice aq2 m.mem.length ak2, .int .i64 m.save, .bool m.lets, .bool m.waits, .int .i64 m.halt, .slice aq3 m.ins.length ak3, .slice aq4 m.outs.length ak4, .int .i64 m.count], m) (List.mem_cons_of_mem _ List.mem_cons_self)).1.r.cell 9 _ rfl
      go_simp
      first | done | with_reducible rfl
    try simp only [Act.put, List.setIfInBounds_toArray, List.set]
    refine PhaseIn.takeD (i := 1) (v := ?_) [1, 3, 8, 10, 11, 12, 13, 14, 15, 16, 17, 18, 19, 20] 50 rfl (by rfl) (by kernel_rfl) (by kernel_rfl) (by kernel_rfl) (by kernel_rfl) (by kernel_rfl) (fun _ _ _ h => h) (Or.inl ⟨by kernel_rfl, ?_⟩) hHeld ?_
    rotate_left
    · intro w' hSw
      (try dsimp only at hSw)
      go_simp
      first | done | with_reducible rfl
    try simp only [Act.put, List.setIfInBounds_toArray, List.set]
    refine PhaseIn.takeD (i := 2) (v := ?_) [2, 3, 8, 10, 11, 12, 13, 14, 15, 16, 17, 18, 19, 20] 51 rfl (by rfl) (by kernel_rfl) (by kernel_rfl) (by kernel_rfl) (by kernel_rfl) (by kernel_rfl) (fun _ _ _ h => h) (Or.inl ⟨by kernel_rfl, ?_⟩) hHeld ?_
    rotate_left
    · intro w' hSw
      (try dsimp only at hSw)
      go_simp
      first | done | with_reducible rfl
    try simp only [Act.put, List.setIfInBounds_toArray, List.set]
    refine PhaseIn.takeD (i := 4) (v := ?_) [4, 8, 10, 11, 12, 13, 14, 15, 16, 17, 18, 19, 20] 53 rfl (by rfl) (by kernel_rfl) (by kernel_rfl) (by kernel_rfl) (by kernel_rfl) (by kernel_rfl) (fun _ _ _ h => h) (Or.inl ⟨by kernel_rfl, ?_⟩) hHeld ?_
    rotate_left
    · intro w' hSw
      (try dsimp only at hSw)
      go_simp
      first | done | with_reducible rfl
    try simp only [Act.put, List.setIfInBounds_toArray, List.set]
    refine PhaseIn.takeD (i := 5) (v := ?_) [5, 7, 8, 10, 11, 12, 13, 14, 15, 16, 17, 18, 19, 20] 54 rfl (by rfl) (by kernel_rfl) (by kernel_rfl) (by kernel_rfl) (by kernel_rfl) (by kernel_rfl) (fun _ _ _ h => h) (Or.inl ⟨by kernel_rfl, ?_⟩) hHeld ?_
    rotate_left
    · intro w' hSw
      (try dsimp only at hSw)
      go_simp
      first | done | with_reducible rfl
    try simp only [Act.put, List.setIfInBounds_toArray, List.set]
    refine PhaseIn.takeD (i := 6) (v := ?_) [6, 7, 8, 10, 11, 12, 13, 14, 15, 16, 17, 18, 19, 20] 55 rfl (by rfl) (by kernel_rfl) (by kernel_rfl) (by kernel_rfl) (by kernel_rfl) (by kernel_rfl) (fun _ _ _ h => h) (Or.inl ⟨by kernel_rfl, ?_⟩) hHeld ?_
    rotate_left
    · intro w' hSw
      (try dsimp only at hSw)
      go_simp
      first | done | with_reducible rfl
    try simp only [Act.put, List.setIfInBounds_toArray, List.set]
    refine PhaseIn.takeD (i := 7) (v := (.int .i64 (Kq : Int))) [7, 8, 10, 11, 12, 13, 14, 15, 16, 17, 18, 19, 20] 56 rfl (by rfl) (by kernel_rfl) (by kernel_rfl) (by kernel_rfl) (by kernel_rfl) (by kernel_rfl) (fun _ _ _ h => h) (Or.inl ⟨by kernel_rfl, ?_⟩) hHeld ?_
    · intro w' hSw
      (try dsimp only at hSw)
      go_simp
      first | done | with_reducible rfl
    try simp only [Act.put, List.setIfInBounds_toArray, List.set]
    refine PhaseIn.takeD (i := 9) (v := ?_) [9, 10, 11, 12, 13, 14, 15, 16, 17, 18, 19, 20] 58 rfl (by rfl) (by kernel_rfl) (by kernel_rfl) (by kernel_rfl) (by kernel_rfl) (by kernel_rfl) (fun _ _ _ h => h) (Or.inl ⟨by kernel_rfl, ?_⟩) hHeld ?_
    rotate_left
    · intro w' hSw
      (try dsimp only at hSw)
      have z0 := (hSw.box (X2, [.slice bq1 x.regs.length bk1, .int .i64 x.pc, .slice bq2 x.mem.length bk2, .int .i64 x.save, .bool x.lets, .bool x.waits, .int .i64 x.halt, .slice bq3 x.ins.length bk3, .slice bq4 x.outs.length bk4, .int .i64 x.count], x) List.mem_cons_self).1.r.cell 0 _ rfl
      have z1 := (hSw.box (X2, [.slice bq1 x.regs.length bk1, .int .i64 x.pc, .slice bq2 x.mem.length bk2, .int .i64 x.save, .bool x.lets, .bool x.waits, .int .i64 x.halt, .slice bq3 x.ins.length bk3, .slice bq4 x.outs.length bk4, .int .i64 x.count], x) List.mem_cons_self).1.r.cell 1 _ rfl
      have z2 := (hSw.box (X2, [.slice bq1 x.regs.length bk1, .int .i64 x.pc, .slice bq2 x.mem.length bk2, .int .i64 x.save, .bool x.lets, .bool x.waits, .int .i64 x.halt, .slice bq3 x.ins.length bk3, .slice bq4 x.outs.length bk4, .int .i64 x.count], x) List.mem_cons_self).1.r.cell 2 _ rfl
      have z3 := (hSw.box (X2, [.slice bq1 x.regs.length bk1, .int .i64 x.pc, .slice bq2 x.mem.length bk2, .int .i64 x.save, .bool x.lets, .bool x.waits, .int .i64 x.halt, .slice bq3 x.ins.length bk3, .slice bq4 x.outs.length bk4, .int .i64 x.count], x) List.mem_cons_self).1.r.cell 3 _ rfl
      have z4 := (hSw.box (X2, [.slice bq1 x.regs.length bk1, .int .i64 x.pc, .slice bq2 x.mem.length bk2, .int .i64 x.save, .bool x.lets, .bool x.waits, .int .i64 x.halt, .slice bq3 x.ins.length bk3, .slice bq4 x.outs.length bk4, .int .i64 x.count], x) List.mem_cons_self).1.r.cell 4 _ rfl
      have z5 := (hSw.box (X2, [.slice bq1 x.regs.length bk1, .int .i64 x.pc, .slice bq2 x.mem.length bk2, .int .i64 x.save, .bool x.lets, .bool x.waits, .int .i64 x.halt, .slice bq3 x.ins.length bk3, .slice bq4 x.outs.length bk4, .int .i64 x.count], x) List.mem_cons_self).1.r.cell 5 _ rfl
      have z6 := (hSw.box (X2, [.slice bq1 x.regs.length bk1, .int .i64 x.pc, .slice bq2 x.mem.length bk2, .int .i64 x.save, .bool x.lets, .bool x.waits, .int .i64 x.halt, .slice bq3 x.ins.length bk3, .slice bq4 x.outs.length bk4, .int .i64 x.count], x) List.mem_cons_self).1.r.cell 6 _ rfl
      have z7 := (hSw.box (X2, [.slice bq1 x.regs.length bk1, .int .i64 x.pc, .slice bq2 x.mem.length bk2, .int .i64 x.save, .bool x.lets, .bool x.waits, .int .i64 x.halt, .slice bq3 x.ins.length bk3, .slice bq4 x.outs.length bk4, .int .i64 x.count], x) List.mem_cons_self).1.r.cell 7 _ rfl
      have z8 := (hSw.box (X2, [.slice bq1 x.regs.length bk1, .int .i64 x.pc, .slice bq2 x.mem.length bk2, .int .i64 x.save, .bool x.lets, .bool x.waits, .int .i64 x.halt, .slice bq3 x.ins.length bk3, .slice bq4 x.outs.length bk4, .int .i64 x.count], x) List.mem_cons_self).1.r.cell 8 _ rfl
      have z9 := (hSw.box (X2, [.slice bq1 x.regs.length bk1, .int .i64 x.pc, .slice bq2 x.mem.length bk2, .int .i64 x.save, .bool x.lets, .bool x.waits, .int .i64 x.halt, .slice bq3 x.ins.length bk3, .slice bq4 x.outs.length bk4, .int .i64 x.count], x) List.mem_cons_self).1.r.cell 9 _ rfl
      go_simp
      first | done | with_reducible rfl
    try simp only [Act.put, List.setIfInBounds_toArray, List.set]
    refine PhaseIn.one (i := 3) (by kernel_rfl) rfl (by kernel_rfl) (fun K hK => ?_)
    unfold Oper.wpIn
    refine ⟨fun _ _ => trivial, ?_⟩
    go_simp
    refine ⟨rfl, (callsIn_wide.2 (MchI.mchRun m xs (H : Int) _ _ _ _ (hHeld.box (X1, [.slice aq1 m.regs.length ak1, .int .i64 m.pc, .slice aq2 m.mem.length ak2, .int .i64 m.save, .bool m.lets, .bool m.waits, .int .i64 m.halt, .slice aq3 m.ins.length ak3, .slice aq4 m.outs.length ak4, .int .i64 m.count], m) (List.mem_cons_of_mem _ List.mem_cons_self)).2 (hHeld.row (Bi, (.slice qi li ci), xs) List.mem_cons_self) FM.out.near)).mono ?_⟩
    rintro e wv9 ⟨c4, rfl, M4, hb⟩
    have MY := hide M4.read
    rw [EY.out] at MY
    clear M4
    replace hHeld := hHeld.below hb
    clear hb
    refine hK _ _ (fun _ => hHeld) ?_
    clear hK K
    try simp only [Act.put, List.setIfInBounds_toArray, List.set]
    refine PhaseIn.one (i := 8) (by kernel_rfl) rfl (by kernel_rfl) (fun K hK => ?_)
    unfold Oper.wpIn
    refine ⟨fun _ _ => trivial, ?_⟩
    go_simp
    refine ⟨rfl, (callsIn_wide.2 (MchI.mchRun y xs (Kq : Int) _ _ _ _ MY.out (hHeld.row (Bi, (.slice qi li ci), xs) List.mem_cons_self) NY.out)).mono ?_⟩
    rintro e wv10 ⟨c5, rfl, M5, hb⟩
    have MV := hide M5.read
    rw [EYX.out] at MV
    clear M5 MY
    replace hHeld := hHeld.below hb
    clear hb
    refine hK _ _ (fun _ => hHeld) ?_
    clear hK K
    try simp only [Act.put, List.setIfInBounds_toArray, List.set]
    refine PhaseIn.one (i := 10) (by kernel_rfl) rfl (by kernel_rfl) (fun K hK => ?_)
    unfold Oper.wpIn
    refine ⟨fun _ _ => trivial, ?_⟩
    go_simp
    refine ⟨rfl, (callsIn_wide.2 (La.laMach x _ _ _ MV.out (hHeld.box (X2, [.slice bq1 x.regs.length bk1, .int .i64 x.pc, .slice bq2 x.mem.length bk2, .int .i64 x.save, .bool x.lets, .bool x.waits, .int .i64 x.halt, .slice bq3 x.ins.length bk3, .slice bq4 x.outs.length bk4, .int .i64 x.count], x) List.mem_cons_self).2)).mono ?_⟩
    rintro e wv11 ⟨rfl, hb⟩
    replace hHeld := hHeld.below hb
    clear hb
    refine hK _ _ (fun _ => hHeld) ?_
    clear hK K
    try simp only [Act.put, List.setIfInBounds_toArray, List.set]
    clear MV
    refine PhaseIn.takeD (i := 11) (v := ?_) [11, 12, 13, 14, 15, 16, 17, 18, 19, 20] 60 rfl (by rfl) (by kernel_rfl) (by kernel_rfl) (by kernel_rfl) (by kernel_rfl) (by kernel_rfl) (fun _ _ _ h => h) (Or.inl ⟨by kernel_rfl, ?_⟩) hHeld ?_
    rotate_left
    · intro w' hSw
      (try dsimp only at hSw)
      go_simp
      first | done | with_reducible rfl
    try simp only [Act.put, List.setIfInBounds_toArray, List.set]
    refine PhaseIn.takeD (i := 12) (v := ?_) [12, 13, 14, 15, 16, 17, 18, 19, 20] 61 rfl (by rfl) (by kernel_rfl) (by kernel_rfl) (by kernel_rfl) (by kernel_rfl) (by kernel_rfl) (fun _ _ _ h => h) (Or.inl ⟨by kernel_rfl, ?_⟩) hHeld ?_
    rotate_left
    · intro w' hSw
      (try dsimp only at hSw)
      go_simp
      first | done | with_reducible rfl
    try simp only [Act.put, List.setIfInBounds_toArray, List.set]
    refine PhaseIn.takeD (i := 13) (v := ?_) [13, 14, 19, 20] 62 rfl (by rfl) (by kernel_rfl) (by kernel_rfl) (by kernel_rfl) (by kernel_rfl) (by kernel_rfl) (fun _ _ _ h => h) (Or.inl ⟨by kernel_rfl, ?_⟩) hHeld ?_
    rotate_left
    · intro w' hSw
      (try dsimp only at hSw)
      go_simp
      first | done | with_reducible rfl
    try simp only [Act.put, List.setIfInBounds_toArray, List.set]
    refine PhaseIn.takeD (i := 14) (v := ?_) [14, 19, 20] 63 rfl (by rfl) (by kernel_rfl) (by kernel_rfl) (by kernel_rfl) (by kernel_rfl) (by kernel_rfl) (fun _ _ _ h => h) (Or.inl ⟨by kernel_rfl, ?_⟩) hHeld ?_
    rotate_left
    · intro w' hSw
      (try dsimp only at hSw)
      have z9 := (hSw.box (X2, [.slice bq1 x.regs.length bk1, .int .i64 x.pc, .slice bq2 x.mem.length bk2, .int .i64 x.save, .bool x.lets, .bool x.waits, .int .i64 x.halt, .slice bq3 x.ins.length bk3, .slice bq4 x.outs.length bk4, .int .i64 x.count], x) List.mem_cons_self).1.r.cell 9 _ rfl
      go_simp
      first | done | with_reducible rfl
    try simp only [Act.put, List.setIfInBounds_toArray, List.set]
    refine PhaseIn.takeD (i := 15) (v := ?_) [15, 16, 18, 19, 20] 64 rfl (by rfl) (by kernel_rfl) (by kernel_rfl) (by kernel_rfl) (by kernel_rfl) (by kernel_rfl) (fun _ _ _ h => h) (Or.inl ⟨by kernel_rfl, ?_⟩) hHeld ?_
    rotate_left
    · intro w' hSw
      (try dsimp only at hSw)
      go_simp
      first | done | with_reducible rfl
    try simp only [Act.put, List.setIfInBounds_toArray, List.set]
    refine PhaseIn.takeD (i := 16) (v := ?_) [16, 18, 19, 20] 65 rfl (by rfl) (by kernel_rfl) (by kernel_rfl) (by kernel_rfl) (by kernel_rfl) (by kernel_rfl) (fun _ _ _ h => h) (Or.inl ⟨by kernel_rfl, ?_⟩) hHeld ?_
    rotate_left
    · intro w' hSw
      (try dsimp only at hSw)
      have z9 := (hSw.box (X1, [.slice aq1 m.regs.length ak1, .int .i64 m.pc, .slice aq2 m.mem.length ak2, .int .i64 m.save, .bool m.lets, .bool m.waits, .int .i64 m.halt, .slice aq3 m.ins.length ak3, .slice aq4 m.outs.length ak4, .int .i64 m.count], m) (List.mem_cons_of_mem _ List.mem_cons_self)).1.r.cell 9 _ rfl
      go_simp
      first | done | with_reducible rfl
    try simp only [Act.put, List.setIfInBounds_toArray, List.set]
    refine PhaseIn.takeD (i := 17) (v := ?_) [17, 18, 19, 20] 66 rfl (by rfl) (by kernel_rfl) (by kernel_rfl) (by kernel_rfl) (by kernel_rfl) (by kernel_rfl) (fun _ _ _ h => h) (Or.inl ⟨by kernel_rfl, ?_⟩) hHeld ?_
    rotate_left
    · intro w' hSw
      (try dsimp only at hSw)
      go_simp
      first | done | with_reducible rfl
    try simp only [Act.put, List.setIfInBounds_toArray, List.set]
    refine PhaseIn.takeD (i := 18) (v := ?_) [18, 19, 20] 67 rfl (by rfl) (by kernel_rfl) (by kernel_rfl) (by kernel_rfl) (by kernel_rfl) (by kernel_rfl) (fun _ _ _ h => h) (Or.inl ⟨by kernel_rfl, ?_⟩) hHeld ?_
    rotate_left
    · intro w' hSw
      (try dsimp only at hSw)
      go_simp
      first | done | with_reducible rfl
    try simp only [Act.put, List.setIfInBounds_toArray, List.set]
    refine PhaseIn.takeD (i := 19) (v := ?_) [19, 20] 68 rfl (by rfl) (by kernel_rfl) (by kernel_rfl) (by kernel_rfl) (by kernel_rfl) (by kernel_rfl) (fun _ _ _ h => h) (Or.inl ⟨by kernel_rfl, ?_⟩) hHeld ?_
    rotate_left
    · intro w' hSw
      (try dsimp only at hSw)
      go_simp
      first | done | with_reducible rfl
    try simp only [Act.put, List.setIfInBounds_toArray, List.set]
    refine PhaseIn.takeD (i := 20) (v := ?_) [20] 69 rfl (by rfl) (by kernel_rfl) (by kernel_rfl) (by kernel_rfl) (by kernel_rfl) (by kernel_rfl) (fun _ _ _ h => h) (Or.inl ⟨by kernel_rfl, ?_⟩) hHeld ?_
    rotate_left
    · intro w' hSw
      (try dsimp only at hSw)
      go_simp
      first | done | with_reducible rfl
    try simp only [Act.put, List.setIfInBounds_toArray, List.set]
    refine PhaseIn.done (by kernel_rfl) ?_ _
    have S := hide hHeld
    clear hHeld
    have ends : (x.halt != 0) = true ∨ ((x.halt != 0) = false ∧ (x.count == m.count + (N : Int)) = true) ∨ ((x.halt != 0) = false ∧ (x.count == m.count + (N : Int)) = false ∧ (x.count == 1000000) = true) := by
      by_cases z1 : x.halt = 0
      · have z2 : (x.halt != 0) = false := by rw [z1]; rfl
        by_cases z3 : x.count = m.count + (N : Int)
        · exact Or.inr (Or.inl ⟨z2, by rw [z3]; simp⟩)
        · exact Or.inr (Or.inr ⟨z2, beq_eq_false_iff_ne.2 z3, by
            rcases RE2.out with r | r | r
            · exact absurd z1 r
            · exact absurd r z3
            · rw [r]; rfl⟩)
      · exact Or.inl (bne_iff_ne.2 z1)
    have hw2 : IntKind.i64.wrap (m.count + (N : Int)) = m.count + (N : Int) := IntWalk.i64_in _ ⟨by omega, by omega⟩
    rcases ends with f1 | ⟨f1, f2⟩ | ⟨f1, f2, f3⟩
    · skip
      have ac0 := (S.out.box (X1, [.slice aq1 m.regs.length ak1, .int .i64 m.pc, .slice aq2 m.mem.length ak2, .int .i64 m.save, .bool m.lets, .bool m.waits, .int .i64 m.halt, .slice aq3 m.ins.length ak3, .slice aq4 m.outs.length ak4, .int .i64 m.count], m) (List.mem_cons_of_mem _ List.mem_cons_self)).1.r.cell 0 _ rfl
      have ac1 := (S.out.box (X1, [.slice aq1 m.regs.length ak1, .int .i64 m.pc, .slice aq2 m.mem.length ak2, .int .i64 m.save, .bool m.lets, .bool m.waits, .int .i64 m.halt, .slice aq3 m.ins.length ak3, .slice aq4 m.outs.length ak4, .int .i64 m.count], m) (List.mem_cons_of_mem _ List.mem_cons_self)).1.r.cell 1 _ rfl
      have ac2 := (S.out.box (X1, [.slice aq1 m.regs.length ak1, .int .i64 m.pc, .slice aq2 m.mem.length ak2, .int .i64 m.save, .bool m.lets, .bool m.waits, .int .i64 m.halt, .slice aq3 m.ins.length ak3, .slice aq4 m.outs.length ak4, .int .i64 m.count], m) (List.mem_cons_of_mem _ List.mem_cons_self)).1.r.cell 2 _ rfl
      have ac3 := (S.out.box (X1, [.slice aq1 m.regs.length ak1, .int .i64 m.pc, .slice aq2 m.mem.length ak2, .int .i64 m.save, .bool m.lets, .bool m.waits, .int .i64 m.halt, .slice aq3 m.ins.length ak3, .slice aq4 m.outs.length ak4, .int .i64 m.count], m) (List.mem_cons_of_mem _ List.mem_cons_self)).1.r.cell 3 _ rfl
      have ac4 := (S.out.box (X1, [.slice aq1 m.regs.length ak1, .int .i64 m.pc, .slice aq2 m.mem.length ak2, .int .i64 m.save, .bool m.lets, .bool m.waits, .int .i64 m.halt, .slice aq3 m.ins.length ak3, .slice aq4 m.outs.length ak4, .int .i64 m.count], m) (List.mem_cons_of_mem _ List.mem_cons_self)).1.r.cell 4 _ rfl
      have ac5 := (S.out.box (X1, [.slice aq1 m.regs.length ak1, .int .i64 m.pc, .slice aq2 m.mem.length ak2, .int .i64 m.save, .bool m.lets, .bool m.waits, .int .i64 m.halt, .slice aq3 m.ins.length ak3, .slice aq4 m.outs.length ak4, .int .i64 m.count], m) (List.mem_cons_of_mem _ List.mem_cons_self)).1.r.cell 5 _ rfl
      have ac6 := (S.out.box (X1, [.slice aq1 m.regs.length ak1, .int .i64 m.pc, .slice aq2 m.mem.length ak2, .int .i64 m.save, .bool m.lets, .bool m.waits, .int .i64 m.halt, .slice aq3 m.ins.length ak3, .slice aq4 m.outs.length ak4, .int .i64 m.count], m) (List.mem_cons_of_mem _ List.mem_cons_self)).1.r.cell 6 _ rfl
      have ac7 := (S.out.box (X1, [.slice aq1 m.regs.length ak1, .int .i64 m.pc, .slice aq2 m.mem.length ak2, .int .i64 m.save, .bool m.lets, .bool m.waits, .int .i64 m.halt, .slice aq3 m.ins.length ak3, .slice aq4 m.outs.length ak4, .int .i64 m.count], m) (List.mem_cons_of_mem _ List.mem_cons_self)).1.r.cell 7 _ rfl
      have ac8 := (S.out.box (X1, [.slice aq1 m.regs.length ak1, .int .i64 m.pc, .slice aq2 m.mem.length ak2, .int .i64 m.save, .bool m.lets, .bool m.waits, .int .i64 m.halt, .slice aq3 m.ins.length ak3, .slice aq4 m.outs.length ak4, .int .i64 m.count], m) (List.mem_cons_of_mem _ List.mem_cons_self)).1.r.cell 8 _ rfl
      have ac9 := (S.out.box (X1, [.slice aq1 m.regs.length ak1, .int .i64 m.pc, .slice aq2 m.mem.length ak2, .int .i64 m.save, .bool m.lets, .bool m.waits, .int .i64 m.halt, .slice aq3 m.ins.length ak3, .slice aq4 m.outs.length ak4, .int .i64 m.count], m) (List.mem_cons_of_mem _ List.mem_cons_self)).1.r.cell 9 _ rfl
      have bc0 := (S.out.box (X2, [.slice bq1 x.regs.length bk1, .int .i64 x.pc, .slice bq2 x.mem.length bk2, .int .i64 x.save, .bool x.lets, .bool x.waits, .int .i64 x.halt, .slice bq3 x.ins.length bk3, .slice bq4 x.outs.length bk4, .int .i64 x.count], x) List.mem_cons_self).1.r.cell 0 _ rfl
      have bc1 := (S.out.box (X2, [.slice bq1 x.regs.length bk1, .int .i64 x.pc, .slice bq2 x.mem.length bk2, .int .i64 x.save, .bool x.lets, .bool x.waits, .int .i64 x.halt, .slice bq3 x.ins.length bk3, .slice bq4 x.outs.length bk4, .int .i64 x.count], x) List.mem_cons_self).1.r.cell 1 _ rfl
      have bc2 := (S.out.box (X2, [.slice bq1 x.regs.length bk1, .int .i64 x.pc, .slice bq2 x.mem.length bk2, .int .i64 x.save, .bool x.lets, .bool x.waits, .int .i64 x.halt, .slice bq3 x.ins.length bk3, .slice bq4 x.outs.length bk4, .int .i64 x.count], x) List.mem_cons_self).1.r.cell 2 _ rfl
      have bc3 := (S.out.box (X2, [.slice bq1 x.regs.length bk1, .int .i64 x.pc, .slice bq2 x.mem.length bk2, .int .i64 x.save, .bool x.lets, .bool x.waits, .int .i64 x.halt, .slice bq3 x.ins.length bk3, .slice bq4 x.outs.length bk4, .int .i64 x.count], x) List.mem_cons_self).1.r.cell 3 _ rfl
      have bc4 := (S.out.box (X2, [.slice bq1 x.regs.length bk1, .int .i64 x.pc, .slice bq2 x.mem.length bk2, .int .i64 x.save, .bool x.lets, .bool x.waits, .int .i64 x.halt, .slice bq3 x.ins.length bk3, .slice bq4 x.outs.length bk4, .int .i64 x.count], x) List.mem_cons_self).1.r.cell 4 _ rfl
      have bc5 := (S.out.box (X2, [.slice bq1 x.regs.length bk1, .int .i64 x.pc, .slice bq2 x.mem.length bk2, .int .i64 x.save, .bool x.lets, .bool x.waits, .int .i64 x.halt, .slice bq3 x.ins.length bk3, .slice bq4 x.outs.length bk4, .int .i64 x.count], x) List.mem_cons_self).1.r.cell 5 _ rfl
      have bc6 := (S.out.box (X2, [.slice bq1 x.regs.length bk1, .int .i64 x.pc, .slice bq2 x.mem.length bk2, .int .i64 x.save, .bool x.lets, .bool x.waits, .int .i64 x.halt, .slice bq3 x.ins.length bk3, .slice bq4 x.outs.length bk4, .int .i64 x.count], x) List.mem_cons_self).1.r.cell 6 _ rfl
      have bc7 := (S.out.box (X2, [.slice bq1 x.regs.length bk1, .int .i64 x.pc, .slice bq2 x.mem.length bk2, .int .i64 x.save, .bool x.lets, .bool x.waits, .int .i64 x.halt, .slice bq3 x.ins.length bk3, .slice bq4 x.outs.length bk4, .int .i64 x.count], x) List.mem_cons_self).1.r.cell 7 _ rfl
      have bc8 := (S.out.box (X2, [.slice bq1 x.regs.length bk1, .int .i64 x.pc, .slice bq2 x.mem.length bk2, .int .i64 x.save, .bool x.lets, .bool x.waits, .int .i64 x.halt, .slice bq3 x.ins.length bk3, .slice bq4 x.outs.length bk4, .int .i64 x.count], x) List.mem_cons_self).1.r.cell 8 _ rfl
      have bc9 := (S.out.box (X2, [.slice bq1 x.regs.length bk1, .int .i64 x.pc, .slice bq2 x.mem.length bk2, .int .i64 x.save, .bool x.lets, .bool x.waits, .int .i64 x.halt, .slice bq3 x.ins.length bk3, .slice bq4 x.outs.length bk4, .int .i64 x.count], x) List.mem_cons_self).1.r.cell 9 _ rfl
      have FIN := hide S.out.bw
      clear S
      go_wp2
      go_ret
      exact ⟨rfl, FIN.out⟩
    · skip
      have ac0 := (S.out.box (X1, [.slice aq1 m.regs.length ak1, .int .i64 m.pc, .slice aq2 m.mem.length ak2, .int .i64 m.save, .bool m.lets, .bool m.waits, .int .i64 m.halt, .slice aq3 m.ins.length ak3, .slice aq4 m.outs.length ak4, .int .i64 m.count], m) (List.mem_cons_of_mem _ List.mem_cons_self)).1.r.cell 0 _ rfl
      have ac1 := (S.out.box (X1, [.slice aq1 m.regs.length ak1, .int .i64 m.pc, .slice aq2 m.mem.length ak2, .int .i64 m.save, .bool m.lets, .bool m.waits, .int .i64 m.halt, .slice aq3 m.ins.length ak3, .slice aq4 m.outs.length ak4, .int .i64 m.count], m) (List.mem_cons_of_mem _ List.mem_cons_self)).1.r.cell 1 _ rfl
      have ac2 := (S.out.box (X1, [.slice aq1 m.regs.length ak1, .int .i64 m.pc, .slice aq2 m.mem.length ak2, .int .i64 m.save, .bool m.lets, .bool m.waits, .int .i64 m.halt, .slice aq3 m.ins.length ak3, .slice aq4 m.outs.length ak4, .int .i64 m.count], m) (List.mem_cons_of_mem _ List.mem_cons_self)).1.r.cell 2 _ rfl
      have ac3 := (S.out.box (X1, [.slice aq1 m.regs.length ak1, .int .i64 m.pc, .slice aq2 m.mem.length ak2, .int .i64 m.save, .bool m.lets, .bool m.waits, .int .i64 m.halt, .slice aq3 m.ins.length ak3, .slice aq4 m.outs.length ak4, .int .i64 m.count], m) (List.mem_cons_of_mem _ List.mem_cons_self)).1.r.cell 3 _ rfl
      have ac4 := (S.out.box (X1, [.slice aq1 m.regs.length ak1, .int .i64 m.pc, .slice aq2 m.mem.length ak2, .int .i64 m.save, .bool m.lets, .bool m.waits, .int .i64 m.halt, .slice aq3 m.ins.length ak3, .slice aq4 m.outs.length ak4, .int .i64 m.count], m) (List.mem_cons_of_mem _ List.mem_cons_self)).1.r.cell 4 _ rfl
      have ac5 := (S.out.box (X1, [.slice aq1 m.regs.length ak1, .int .i64 m.pc, .slice aq2 m.mem.length ak2, .int .i64 m.save, .bool m.lets, .bool m.waits, .int .i64 m.halt, .slice aq3 m.ins.length ak3, .slice aq4 m.outs.length ak4, .int .i64 m.count], m) (List.mem_cons_of_mem _ List.mem_cons_self)).1.r.cell 5 _ rfl
      have ac6 := (S.out.box (X1, [.slice aq1 m.regs.length ak1, .int .i64 m.pc, .slice aq2 m.mem.length ak2, .int .i64 m.save, .bool m.lets, .bool m.waits, .int .i64 m.halt, .slice aq3 m.ins.length ak3, .slice aq4 m.outs.length ak4, .int .i64 m.count], m) (List.mem_cons_of_mem _ List.mem_cons_self)).1.r.cell 6 _ rfl
      have ac7 := (S.out.box (X1, [.slice aq1 m.regs.length ak1, .int .i64 m.pc, .slice aq2 m.mem.length ak2, .int .i64 m.save, .bool m.lets, .bool m.waits, .int .i64 m.halt, .slice aq3 m.ins.length ak3, .slice aq4 m.outs.length ak4, .int .i64 m.count], m) (List.mem_cons_of_mem _ List.mem_cons_self)).1.r.cell 7 _ rfl
      have ac8 := (S.out.box (X1, [.slice aq1 m.regs.length ak1, .int .i64 m.pc, .slice aq2 m.mem.length ak2, .int .i64 m.save, .bool m.lets, .bool m.waits, .int .i64 m.halt, .slice aq3 m.ins.length ak3, .slice aq4 m.outs.length ak4, .int .i64 m.count], m) (List.mem_cons_of_mem _ List.mem_cons_self)).1.r.cell 8 _ rfl
      have ac9 := (S.out.box (X1, [.slice aq1 m.regs.length ak1, .int .i64 m.pc, .slice aq2 m.mem.length ak2, .int .i64 m.save, .bool m.lets, .bool m.waits, .int .i64 m.halt, .slice aq3 m.ins.length ak3, .slice aq4 m.outs.length ak4, .int .i64 m.count], m) (List.mem_cons_of_mem _ List.mem_cons_self)).1.r.cell 9 _ rfl
      have bc0 := (S.out.box (X2, [.slice bq1 x.regs.length bk1, .int .i64 x.pc, .slice bq2 x.mem.length bk2, .int .i64 x.save, .bool x.lets, .bool x.waits, .int .i64 x.halt, .slice bq3 x.ins.length bk3, .slice bq4 x.outs.length bk4, .int .i64 x.count], x) List.mem_cons_self).1.r.cell 0 _ rfl
      have bc1 := (S.out.box (X2, [.slice bq1 x.regs.length bk1, .int .i64 x.pc, .slice bq2 x.mem.length bk2, .int .i64 x.save, .bool x.lets, .bool x.waits, .int .i64 x.halt, .slice bq3 x.ins.length bk3, .slice bq4 x.outs.length bk4, .int .i64 x.count], x) List.mem_cons_self).1.r.cell 1 _ rfl
      have bc2 := (S.out.box (X2, [.slice bq1 x.regs.length bk1, .int .i64 x.pc, .slice bq2 x.mem.length bk2, .int .i64 x.save, .bool x.lets, .bool x.waits, .int .i64 x.halt, .slice bq3 x.ins.length bk3, .slice bq4 x.outs.length bk4, .int .i64 x.count], x) List.mem_cons_self).1.r.cell 2 _ rfl
      have bc3 := (S.out.box (X2, [.slice bq1 x.regs.length bk1, .int .i64 x.pc, .slice bq2 x.mem.length bk2, .int .i64 x.save, .bool x.lets, .bool x.waits, .int .i64 x.halt, .slice bq3 x.ins.length bk3, .slice bq4 x.outs.length bk4, .int .i64 x.count], x) List.mem_cons_self).1.r.cell 3 _ rfl
      have bc4 := (S.out.box (X2, [.slice bq1 x.regs.length bk1, .int .i64 x.pc, .slice bq2 x.mem.length bk2, .int .i64 x.save, .bool x.lets, .bool x.waits, .int .i64 x.halt, .slice bq3 x.ins.length bk3, .slice bq4 x.outs.length bk4, .int .i64 x.count], x) List.mem_cons_self).1.r.cell 4 _ rfl
      have bc5 := (S.out.box (X2, [.slice bq1 x.regs.length bk1, .int .i64 x.pc, .slice bq2 x.mem.length bk2, .int .i64 x.save, .bool x.lets, .bool x.waits, .int .i64 x.halt, .slice bq3 x.ins.length bk3, .slice bq4 x.outs.length bk4, .int .i64 x.count], x) List.mem_cons_self).1.r.cell 5 _ rfl
      have bc6 := (S.out.box (X2, [.slice bq1 x.regs.length bk1, .int .i64 x.pc, .slice bq2 x.mem.length bk2, .int .i64 x.save, .bool x.lets, .bool x.waits, .int .i64 x.halt, .slice bq3 x.ins.length bk3, .slice bq4 x.outs.length bk4, .int .i64 x.count], x) List.mem_cons_self).1.r.cell 6 _ rfl
      have bc7 := (S.out.box (X2, [.slice bq1 x.regs.length bk1, .int .i64 x.pc, .slice bq2 x.mem.length bk2, .int .i64 x.save, .bool x.lets, .bool x.waits, .int .i64 x.halt, .slice bq3 x.ins.length bk3, .slice bq4 x.outs.length bk4, .int .i64 x.count], x) List.mem_cons_self).1.r.cell 7 _ rfl
      have bc8 := (S.out.box (X2, [.slice bq1 x.regs.length bk1, .int .i64 x.pc, .slice bq2 x.mem.length bk2, .int .i64 x.save, .bool x.lets, .bool x.waits, .int .i64 x.halt, .slice bq3 x.ins.length bk3, .slice bq4 x.outs.length bk4, .int .i64 x.count], x) List.mem_cons_self).1.r.cell 8 _ rfl
      have bc9 := (S.out.box (X2, [.slice bq1 x.regs.length bk1, .int .i64 x.pc, .slice bq2 x.mem.length bk2, .int .i64 x.save, .bool x.lets, .bool x.waits, .int .i64 x.halt, .slice bq3 x.ins.length bk3, .slice bq4 x.outs.length bk4, .int .i64 x.count], x) List.mem_cons_self).1.r.cell 9 _ rfl
      have FIN := hide S.out.bw
      clear S
      go_wp2
      go_ret
      exact ⟨rfl, FIN.out⟩
    · skip
      have ac0 := (S.out.box (X1, [.slice aq1 m.regs.length ak1, .int .i64 m.pc, .slice aq2 m.mem.length ak2, .int .i64 m.save, .bool m.lets, .bool m.waits, .int .i64 m.halt, .slice aq3 m.ins.length ak3, .slice aq4 m.outs.length ak4, .int .i64 m.count], m) (List.mem_cons_of_mem _ List.mem_cons_self)).1.r.cell 0 _ rfl
      have ac1 := (S.out.box (X1, [.slice aq1 m.regs.length ak1, .int .i64 m.pc, .slice aq2 m.mem.length ak2, .int .i64 m.save, .bool m.lets, .bool m.waits, .int .i64 m.halt, .slice aq3 m.ins.length ak3, .slice aq4 m.outs.length ak4, .int .i64 m.count], m) (List.mem_cons_of_mem _ List.mem_cons_self)).1.r.cell 1 _ rfl
      have ac2 := (S.out.box (X1, [.slice aq1 m.regs.length ak1, .int .i64 m.pc, .slice aq2 m.mem.length ak2, .int .i64 m.save, .bool m.lets, .bool m.waits, .int .i64 m.halt, .slice aq3 m.ins.length ak3, .slice aq4 m.outs.length ak4, .int .i64 m.count], m) (List.mem_cons_of_mem _ List.mem_cons_self)).1.r.cell 2 _ rfl
      have ac3 := (S.out.box (X1, [.slice aq1 m.regs.length ak1, .int .i64 m.pc, .slice aq2 m.mem.length ak2, .int .i64 m.save, .bool m.lets, .bool m.waits, .int .i64 m.halt, .slice aq3 m.ins.length ak3, .slice aq4 m.outs.length ak4, .int .i64 m.count], m) (List.mem_cons_of_mem _ List.mem_cons_self)).1.r.cell 3 _ rfl
      have ac4 := (S.out.box (X1, [.slice aq1 m.regs.length ak1, .int .i64 m.pc, .slice aq2 m.mem.length ak2, .int .i64 m.save, .bool m.lets, .bool m.waits, .int .i64 m.halt, .slice aq3 m.ins.length ak3, .slice aq4 m.outs.length ak4, .int .i64 m.count], m) (List.mem_cons_of_mem _ List.mem_cons_self)).1.r.cell 4 _ rfl
      have ac5 := (S.out.box (X1, [.slice aq1 m.regs.length ak1, .int .i64 m.pc, .slice aq2 m.mem.length ak2, .int .i64 m.save, .bool m.lets, .bool m.waits, .int .i64 m.halt, .slice aq3 m.ins.length ak3, .slice aq4 m.outs.length ak4, .int .i64 m.count], m) (List.mem_cons_of_mem _ List.mem_cons_self)).1.r.cell 5 _ rfl
      have ac6 := (S.out.box (X1, [.slice aq1 m.regs.length ak1, .int .i64 m.pc, .slice aq2 m.mem.length ak2, .int .i64 m.save, .bool m.lets, .bool m.waits, .int .i64 m.halt, .slice aq3 m.ins.length ak3, .slice aq4 m.outs.length ak4, .int .i64 m.count], m) (List.mem_cons_of_mem _ List.mem_cons_self)).1.r.cell 6 _ rfl
      have ac7 := (S.out.box (X1, [.slice aq1 m.regs.length ak1, .int .i64 m.pc, .slice aq2 m.mem.length ak2, .int .i64 m.save, .bool m.lets, .bool m.waits, .int .i64 m.halt, .slice aq3 m.ins.length ak3, .slice aq4 m.outs.length ak4, .int .i64 m.count], m) (List.mem_cons_of_mem _ List.mem_cons_self)).1.r.cell 7 _ rfl
      have ac8 := (S.out.box (X1, [.slice aq1 m.regs.length ak1, .int .i64 m.pc, .slice aq2 m.mem.length ak2, .int .i64 m.save, .bool m.lets, .bool m.waits, .int .i64 m.halt, .slice aq3 m.ins.length ak3, .slice aq4 m.outs.length ak4, .int .i64 m.count], m) (List.mem_cons_of_mem _ List.mem_cons_self)).1.r.cell 8 _ rfl
      have ac9 := (S.out.box (X1, [.slice aq1 m.regs.length ak1, .int .i64 m.pc, .slice aq2 m.mem.length ak2, .int .i64 m.save, .bool m.lets, .bool m.waits, .int .i64 m.halt, .slice aq3 m.ins.length ak3, .slice aq4 m.outs.length ak4, .int .i64 m.count], m) (List.mem_cons_of_mem _ List.mem_cons_self)).1.r.cell 9 _ rfl
      have bc0 := (S.out.box (X2, [.slice bq1 x.regs.length bk1, .int .i64 x.pc, .slice bq2 x.mem.length bk2, .int .i64 x.save, .bool x.lets, .bool x.waits, .int .i64 x.halt, .slice bq3 x.ins.length bk3, .slice bq4 x.outs.length bk4, .int .i64 x.count], x) List.mem_cons_self).1.r.cell 0 _ rfl
      have bc1 := (S.out.box (X2, [.slice bq1 x.regs.length bk1, .int .i64 x.pc, .slice bq2 x.mem.length bk2, .int .i64 x.save, .bool x.lets, .bool x.waits, .int .i64 x.halt, .slice bq3 x.ins.length bk3, .slice bq4 x.outs.length bk4, .int .i64 x.count], x) List.mem_cons_self).1.r.cell 1 _ rfl
      have bc2 := (S.out.box (X2, [.slice bq1 x.regs.length bk1, .int .i64 x.pc, .slice bq2 x.mem.length bk2, .int .i64 x.save, .bool x.lets, .bool x.waits, .int .i64 x.halt, .slice bq3 x.ins.length bk3, .slice bq4 x.outs.length bk4, .int .i64 x.count], x) List.mem_cons_self).1.r.cell 2 _ rfl
      have bc3 := (S.out.box (X2, [.slice bq1 x.regs.length bk1, .int .i64 x.pc, .slice bq2 x.mem.length bk2, .int .i64 x.save, .bool x.lets, .bool x.waits, .int .i64 x.halt, .slice bq3 x.ins.length bk3, .slice bq4 x.outs.length bk4, .int .i64 x.count], x) List.mem_cons_self).1.r.cell 3 _ rfl
      have bc4 := (S.out.box (X2, [.slice bq1 x.regs.length bk1, .int .i64 x.pc, .slice bq2 x.mem.length bk2, .int .i64 x.save, .bool x.lets, .bool x.waits, .int .i64 x.halt, .slice bq3 x.ins.length bk3, .slice bq4 x.outs.length bk4, .int .i64 x.count], x) List.mem_cons_self).1.r.cell 4 _ rfl
      have bc5 := (S.out.box (X2, [.slice bq1 x.regs.length bk1, .int .i64 x.pc, .slice bq2 x.mem.length bk2, .int .i64 x.save, .bool x.lets, .bool x.waits, .int .i64 x.halt, .slice bq3 x.ins.length bk3, .slice bq4 x.outs.length bk4, .int .i64 x.count], x) List.mem_cons_self).1.r.cell 5 _ rfl
      have bc6 := (S.out.box (X2, [.slice bq1 x.regs.length bk1, .int .i64 x.pc, .slice bq2 x.mem.length bk2, .int .i64 x.save, .bool x.lets, .bool x.waits, .int .i64 x.halt, .slice bq3 x.ins.length bk3, .slice bq4 x.outs.length bk4, .int .i64 x.count], x) List.mem_cons_self).1.r.cell 6 _ rfl
      have bc7 := (S.out.box (X2, [.slice bq1 x.regs.length bk1, .int .i64 x.pc, .slice bq2 x.mem.length bk2, .int .i64 x.save, .bool x.lets, .bool x.waits, .int .i64 x.halt, .slice bq3 x.ins.length bk3, .slice bq4 x.outs.length bk4, .int .i64 x.count], x) List.mem_cons_self).1.r.cell 7 _ rfl
      have bc8 := (S.out.box (X2, [.slice bq1 x.regs.length bk1, .int .i64 x.pc, .slice bq2 x.mem.length bk2, .int .i64 x.save, .bool x.lets, .bool x.waits, .int .i64 x.halt, .slice bq3 x.ins.length bk3, .slice bq4 x.outs.length bk4, .int .i64 x.count], x) List.mem_cons_self).1.r.cell 8 _ rfl
      have bc9 := (S.out.box (X2, [.slice bq1 x.regs.length bk1, .int .i64 x.pc, .slice bq2 x.mem.length bk2, .int .i64 x.save, .bool x.lets, .bool x.waits, .int .i64 x.halt, .slice bq3 x.ins.length bk3, .slice bq4 x.outs.length bk4, .int .i64 x.count], x) List.mem_cons_self).1.r.cell 9 _ rfl
      have FIN := hide S.out.bw
      clear S
      go_wp2
      go_ret
      exact ⟨rfl, FIN.out⟩

set_option maxRecDepth 100000 in
theorem lifted (os : Os) (started : os.Started) (H : Type) (enc : TypeId × Value → H) :
    ReturnsInHanded {} Tryz.checked os 6 .any (Rows.fnMchRunSpec.pre6 enc Tryz.prog Tryz.f6 Rows.fnMchRunRow.domain false) (Rows.fnMchRunSpec.post enc Tryz.prog Tryz.f6 false true false false) := by
  refine returnsInHanded_of_change (C := Tryz.checked) own started (by kernel_rfl) Tryz.func6
    (ChangeSpec.witness6 (enc := enc) (C := Tryz.checked) false ⟨#[], #[.slice none 0 0], []⟩ 8 (by kernel_rfl) (by kernel_rfl) (by kernel_rfl) (by kernel_rfl)) ?_
  intro W base args ds gs before hval0 hW hcnd _
  have hval : ∀ (j : Nat) t v, Tryz.f6.params[j]? = some t → args[j]? = some v → Value.okWide Tryz.prog W .any base t v := hval0
  have hW' := hW
  obtain ⟨p, q, hA0, hV, rfl, hfz, hnd⟩ := hW
  have hA : DataW.TrodAll enc Tryz.prog W 0 (fun _ => true) true Tryz.f6.params.toList args.toList ds p := hA0
  rw [Tryz.params6] at hA hval
  obtain ⟨v0, vs0, d0, ds0, p0, q0, hargs, rfl, rfl, h0, r0⟩ := trodAll_cons hA
  obtain ⟨rfl, rfl, rfl⟩ := trodAll_nil r0
  obtain rfl : args = #[v0] := by cases args; simp_all
  obtain ⟨rfl, rfl⟩ := trodVars_none hV
  obtain ⟨a0, len0, cap0, rfl⟩ := okWide_slice Tryz.underlying22 (hval 0 22 v0 rfl rfl)
  have k0 := h0
  have lt0 : ∀ x ∈ p0, x.block < W.heap.size := by obtain ⟨m, hm⟩ := k0; exact DataW.trod_lt m _ _ _ hm
  obtain ⟨z0, w0⟩ : ∃ zs, IsRow .u8 W a0 len0 cap0 zs := by
    obtain ⟨fuel, hf⟩ := h0
    rcases open_ints Tryz.underlying22 Tryz.underlying5 (by kernel_rfl) hf with ⟨hcs, _⟩ | ⟨x, l, c, zs, hcs, _, hl, hm, hz, _, hcell, hwz⟩
    · simp [Value.cells] at hcs
      obtain ⟨rfl, rfl, rfl⟩ := hcs
      exact ⟨[], .inl ⟨rfl, rfl, rfl, rfl⟩⟩
    · simp [Value.cells] at hcs
      obtain ⟨rfl, rfl, rfl⟩ := hcs
      exact ⟨zs, .inr ⟨_, rfl, hl, hm, by simpa using hz, hcell, hwz⟩⟩
  clear hA0 hval0
  refine (walk a0 len0 cap0 z0 W w0).mono fun e W' ⟨he, bel⟩ => ?_
  subst he
  exact ⟨_, rfl, _, _, _, [], _, [], hW', trodAll_mk1 (shut_bool Tryz.underlying4 _), (trodAll_cons_mk (Below.trod laidOut (by kernel_rfl) (of_decide_eq_true (by kernel_rfl)) k0 bel lt0) trodAll_mk0), rfl, bel.frame _, fun h => by cases h⟩

theorem over : Rows.fnMchRunRow.holds Tryz.pinned (OpenSpec.ofChange Rows.fnMchRunSpec) :=
  OpenClaim.holds_of_wide 6 Tryz.f6 rfl rfl rfl rfl rfl rfl rfl ⟨rfl, rfl, rfl, rfl, rfl⟩ rfl rfl rfl rfl rfl (by kernel_rfl) Tryz.func6 (by kernel_rfl)
    (of_decide_eq_true (by kernel_rfl)) (by unfold Func.isWrapper; first | (rw [if_pos (by decide +kernel)]; kernel_rfl) | (rw [if_neg (by decide +kernel)]; exact ⟨rfl, rfl⟩))
    (fun os started H enc _ => lifted os started H enc)

theorem proved : Rows.FnMchRunSaid := over
#print axioms proved
end Go.Proofs.YtnhpmbhphbphaaaGreat.fnMchRun
