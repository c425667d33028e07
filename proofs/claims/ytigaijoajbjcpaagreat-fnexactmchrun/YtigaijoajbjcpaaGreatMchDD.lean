/-
  The program's instructionAt: what the word at a machine's place says, or how the machine stands still.
-/
import Derived.Test.YtigaijoajbjcpaaGreatMchCC
import Derived.Test.YtigaijoajbjcpaaGreatInsI
import Derived.Test.YtigaijoajbjcpaaGreatMchZ
import Derived.WalkSmall
namespace Go.Proofs.YtigaijoajbjcpaaGreat.MchI
set_option linter.unusedSimpArgs false
set_option linter.unusedVariables false
open Go.ChangeShapes Go.WideShapes Go.ChangeAt Go.RowKit IntS Mch
set_option maxRecDepth 8000 in
set_option maxHeartbeats 4000000 in
theorem at_place (m : M) (c : List Value) (w : World) (h : RMach w c m) (hp : 64 ≤ m.pc) :
    Calls Tryz.prog 53 #[.agg c.toArray] w fun e w' => e = .panicked [{ v := .iface 58 (.int .i64 4), recovered := false }] ∧ Below w.heap.size w w' := by
  obtain ⟨r, e, i, o, b1, b2, b3, b4, rfl, h1, h2, h3, h4⟩ := h
  clear h1 h2 h3 h4
  obtain ⟨regs, pc, mem, save, lets, waits, halt, ins, outs, count⟩ := m
  simp only [mv] at *
  have bV : Below w.heap.size w (w.alloc (.cells #[r, .int .i64 pc, e, .int .i64 save, .bool lets, .bool waits, .int .i64 halt, i, o, .int .i64 count] 26)) := (Below.refl _ _).alloc (Nat.le_refl _) _
  have N := hide (Box.new w [r, .int .i64 pc, e, .int .i64 save, .bool lets, .bool waits, .int .i64 halt, i, o, .int .i64 count] 26)
  have BV := hide bV
  clear bV
  go_enter Tryz.func53, Tryz.ntmps53
  go_wp2
  exact ⟨rfl, rfl, (BV.out.alloc BV.out.size _)⟩
set_option maxRecDepth 8000 in
set_option maxHeartbeats 4000000 in
theorem at_no (mem : List Int) (t : Nat) (save halt count : Int) (lets waits : Bool) (r i o : Value) (b2 o2 k2 : Nat) (w : World) (h : WRow w b2 (.slice (some ⟨b2, o2, none⟩) mem.length k2) mem) (ht : t < 64) (hl : mem.length = 64) (v : Int) (hv : mem[t]? = some v) (tk : Ins.takeB v = false) :
    Calls Tryz.prog 53 #[.agg #[r, .int .i64 (t : Nat), .slice (some ⟨b2, o2, none⟩) mem.length k2, .int .i64 save, .bool lets, .bool waits, .int .i64 halt, i, o, .int .i64 count]] w fun e w' => e = .panicked [{ v := .iface 58 (.int .i64 2), recovered := false }] ∧ Below w.heap.size w w' := by
  have bV : Below w.heap.size w ((w.alloc (.cells #[r, .int .i64 (t : Nat), .slice (some ⟨b2, o2, none⟩) mem.length k2, .int .i64 save, .bool lets, .bool waits, .int .i64 halt, i, o, .int .i64 count] 26)).alloc (.cells #[.int .i64 0, .int .i64 0, .int .i64 0, .int .i64 0] 48)) := ((Below.refl _ _).alloc (Nat.le_refl _) _).alloc (by simp) _
  have tm : ((t : Nat) : Int) < (mem.length : Int) := by rw [hl]; omega
  obtain ⟨cv, _⟩ := row_at (h.below bV) hv
  have BV := hide bV
  have R0 := Box.new (w.alloc (.cells #[r, .int .i64 (t : Nat), .slice (some ⟨b2, o2, none⟩) mem.length k2, .int .i64 save, .bool lets, .bool waits, .int .i64 halt, i, o, .int .i64 count] 26)) [.int .i64 0, .int .i64 0, .int .i64 0, .int .i64 0] 48
  rw [show (w.alloc (.cells #[r, .int .i64 (t : Nat), .slice (some ⟨b2, o2, none⟩) mem.length k2, .int .i64 save, .bool lets, .bool waits, .int .i64 halt, i, o, .int .i64 count] 26)).heap.size = w.heap.size + 1 by simp] at R0
  have R := hide R0
  have h64 : ¬ (64 ≤ ((t : Nat) : Int)) := by omega
  have ET : Hid (Ins.takeC v = #[.int .i64 0, .int .i64 0, .int .i64 0, .int .i64 0]) := show _ = _ by unfold Ins.takeC; rw [tk]; rfl
  have TK : Hid (Ins.takeB v = false) := tk
  clear bV hv hl h R0 tk
  go_enter Tryz.func53, Tryz.ntmps53
  go_wp2_with fail
  refine (InsI.insTake v _).mono ?_
  rintro e u ⟨rfl, hb⟩
  rw [ET.out, TK.out]
  have BU := hide (BV.out.trans (hb.mono BV.out.size))
  have RU := hide ((R.out.below hb).alloc (.cells #[.int .i64 0, .int .i64 0, .int .i64 0, .int .i64 0] 48))
  clear hb BV cv h64 tm R ET TK
  go_wp2
  exact ⟨rfl, rfl, BU.out.alloc BU.out.size _⟩
set_option maxRecDepth 8000 in
set_option maxHeartbeats 4000000 in
theorem at_yes (mem : List Int) (t : Nat) (save halt count : Int) (lets waits : Bool) (r i o : Value) (b2 o2 k2 : Nat) (w : World) (h : WRow w b2 (.slice (some ⟨b2, o2, none⟩) mem.length k2) mem) (ht : t < 64) (hl : mem.length = 64) (v : Int) (hv : mem[t]? = some v) (tk : Ins.takeB v = true) :
    Calls Tryz.prog 53 #[.agg #[r, .int .i64 (t : Nat), .slice (some ⟨b2, o2, none⟩) mem.length k2, .int .i64 save, .bool lets, .bool waits, .int .i64 halt, i, o, .int .i64 count]] w fun e w' => e = .returned (.agg #[.int .i64 (v / 4096), .int .i64 (v / 1024 % 4), .int .i64 (v / 256 % 4), .int .i64 (v % 256)]) ∧ Below w.heap.size w w' := by
  have bV : Below w.heap.size w ((w.alloc (.cells #[r, .int .i64 (t : Nat), .slice (some ⟨b2, o2, none⟩) mem.length k2, .int .i64 save, .bool lets, .bool waits, .int .i64 halt, i, o, .int .i64 count] 26)).alloc (.cells #[.int .i64 0, .int .i64 0, .int .i64 0, .int .i64 0] 48)) := ((Below.refl _ _).alloc (Nat.le_refl _) _).alloc (by simp) _
  have tm : ((t : Nat) : Int) < (mem.length : Int) := by rw [hl]; omega
  obtain ⟨cv, _⟩ := row_at (h.below bV) hv
  have BV := hide bV
  have R0 := Box.new (w.alloc (.cells #[r, .int .i64 (t : Nat), .slice (some ⟨b2, o2, none⟩) mem.length k2, .int .i64 save, .bool lets, .bool waits, .int .i64 halt, i, o, .int .i64 count] 26)) [.int .i64 0, .int .i64 0, .int .i64 0, .int .i64 0] 48
  rw [show (w.alloc (.cells #[r, .int .i64 (t : Nat), .slice (some ⟨b2, o2, none⟩) mem.length k2, .int .i64 save, .bool lets, .bool waits, .int .i64 halt, i, o, .int .i64 count] 26)).heap.size = w.heap.size + 1 by simp] at R0
  have R := hide R0
  have h64 : ¬ (64 ≤ ((t : Nat) : Int)) := by omega
  have ET : Hid (Ins.takeC v = #[.int .i64 (v / 4096), .int .i64 (v / 1024 % 4), .int .i64 (v / 256 % 4), .int .i64 (v % 256)]) := show _ = _ by unfold Ins.takeC; rw [tk]; rfl
  have TK : Hid (Ins.takeB v = true) := tk
  clear bV hv hl h R0 tk
  go_enter Tryz.func53, Tryz.ntmps53
  go_wp2_with fail
  refine (InsI.insTake v _).mono ?_
  rintro e u ⟨rfl, hb⟩
  rw [ET.out, TK.out]
  have BU := hide (BV.out.trans (hb.mono BV.out.size))
  have RU := hide ((R.out.below hb).alloc (.cells #[.int .i64 (v / 4096), .int .i64 (v / 1024 % 4), .int .i64 (v / 256 % 4), .int .i64 (v % 256)] 48))
  clear hb BV cv h64 tm R ET TK
  have I := hide (Box.new u [.int .i64 (v / 4096), .int .i64 (v / 1024 % 4), .int .i64 (v / 256 % 4), .int .i64 (v % 256)] 48)
  have r0 := RU.out.r.cell 0 _ rfl
  have r1 := RU.out.r.cell 1 _ rfl
  have r2 := RU.out.r.cell 2 _ rfl
  have r3 := RU.out.r.cell 3 _ rfl
  have s0 := RU.out.r.soft 0
  have s1 := RU.out.r.soft 1
  have s2 := RU.out.r.soft 2
  have s3 := RU.out.r.soft 3
  go_wp2
  have F0 := RU.out.set 0 (.int .i64 (v / 4096)) (by simp) rfl
  have F1 := F0.set 1 (.int .i64 (v / 1024 % 4)) (by simp) rfl
  have F2 := F1.set 2 (.int .i64 (v / 256 % 4)) (by simp) rfl
  have F3 := F2.set 3 (.int .i64 (v % 256)) (by simp) rfl
  have z0 := F3.r.cell 0 _ rfl
  have z1 := F3.r.cell 1 _ rfl
  have z2 := F3.r.cell 2 _ rfl
  have z3 := F3.r.cell 3 _ rfl
  have BT := hide (((((BU.out.alloc BU.out.size (.cells #[.int .i64 (v / 4096), .int .i64 (v / 1024 % 4), .int .i64 (v / 256 % 4), .int .i64 (v % 256)] 48)).setCell (p := ⟨w.heap.size + 1, 0, none⟩) (by simp) (.int .i64 (v / 4096))).setCell (p := ⟨w.heap.size + 1, 1, none⟩) (by simp) (.int .i64 (v / 1024 % 4))).setCell (p := ⟨w.heap.size + 1, 2, none⟩) (by simp) (.int .i64 (v / 256 % 4))).setCell (p := ⟨w.heap.size + 1, 3, none⟩) (by simp) (.int .i64 (v % 256)))
  clear F0 F1 F2 F3 RU r0 r1 r2 r3 s0 s1 s2 s3 I BU
  exact bodyPost_ret (v := .agg #[.int .i64 (v / 4096), .int .i64 (v / 1024 % 4), .int .i64 (v / 256 % 4), .int .i64 (v % 256)]) (by simp [results, Tryz.results53, go_sem, z0, z1, z2, z3]) rfl ⟨rfl, BT.out⟩
end Go.Proofs.YtigaijoajbjcpaaGreat.MchI
