/-
  Contracts of the program's filled: an instruction with what stands behind its name.
-/
import Derived.Test.YthpajjlhjfhdpaaGreatDoorInsH
namespace Go.Proofs.YthpajjlhjfhdpaaGreatDoor.InsI
open Go.ChangeShapes Go.WideShapes Go.ChangeAt Go.RowKit Ins
theorem ta_stop_set (k : Int) (w : World) : (Instr.typeAssert (.iface 75 (.agg #[.int .i64 k])) 50 77 true).run Tryz.prog w = .ok (.tuple #[.agg #[.int .i64 0, .int .i64 0], .bool false]) w := by kernel_rfl
theorem ta_stop_move (k : Int) (w : World) : (Instr.typeAssert (.iface 75 (.agg #[.int .i64 k])) 50 79 true).run Tryz.prog w = .ok (.tuple #[.agg #[.int .i64 0, .int .i64 0], .bool false]) w := by kernel_rfl
theorem ta_stop_reckon (k : Int) (w : World) : (Instr.typeAssert (.iface 75 (.agg #[.int .i64 k])) 50 81 true).run Tryz.prog w = .ok (.tuple #[.agg #[.int .i64 0, .int .i64 0, .int .i64 0, .int .i64 0], .bool false]) w := by kernel_rfl
theorem ta_stop_shift (k : Int) (w : World) : (Instr.typeAssert (.iface 75 (.agg #[.int .i64 k])) 50 83 true).run Tryz.prog w = .ok (.tuple #[.agg #[.int .i64 0, .int .i64 0, .int .i64 0], .bool false]) w := by kernel_rfl
theorem ta_stop_reach (k : Int) (w : World) : (Instr.typeAssert (.iface 75 (.agg #[.int .i64 k])) 50 85 true).run Tryz.prog w = .ok (.tuple #[.agg #[.int .i64 0, .int .i64 0, .int .i64 0, .int .i64 0], .bool false]) w := by kernel_rfl
theorem ta_stop_ask (k : Int) (w : World) : (Instr.typeAssert (.iface 75 (.agg #[.int .i64 k])) 50 86 true).run Tryz.prog w = .ok (.tuple #[.agg #[.int .i64 0, .int .i64 0, .int .i64 0, .int .i64 0], .bool false]) w := by kernel_rfl
theorem ta_stop_go (k : Int) (w : World) : (Instr.typeAssert (.iface 75 (.agg #[.int .i64 k])) 50 88 true).run Tryz.prog w = .ok (.tuple #[.agg #[.int .i64 0], .bool false]) w := by kernel_rfl
theorem ta_stop_pass (k : Int) (w : World) : (Instr.typeAssert (.iface 75 (.agg #[.int .i64 k])) 50 90 true).run Tryz.prog w = .ok (.tuple #[.agg #[.int .i64 0, .int .i64 0], .bool false]) w := by kernel_rfl
theorem ta_reckon_shift (op d a k : Int) (w : World) : (Instr.typeAssert (.iface 81 (.agg #[.int .i64 op, .int .i64 d, .int .i64 a, .int .i64 k])) 50 83 true).run Tryz.prog w = .ok (.tuple #[.agg #[.int .i64 0, .int .i64 0, .int .i64 0], .bool false]) w := by kernel_rfl
theorem ta_reckon_reach (op d a k : Int) (w : World) : (Instr.typeAssert (.iface 81 (.agg #[.int .i64 op, .int .i64 d, .int .i64 a, .int .i64 k])) 50 85 true).run Tryz.prog w = .ok (.tuple #[.agg #[.int .i64 0, .int .i64 0, .int .i64 0, .int .i64 0], .bool false]) w := by kernel_rfl
theorem ta_reckon_ask (op d a k : Int) (w : World) : (Instr.typeAssert (.iface 81 (.agg #[.int .i64 op, .int .i64 d, .int .i64 a, .int .i64 k])) 50 86 true).run Tryz.prog w = .ok (.tuple #[.agg #[.int .i64 0, .int .i64 0, .int .i64 0, .int .i64 0], .bool false]) w := by kernel_rfl
theorem ta_shift_reach (d a k : Int) (w : World) : (Instr.typeAssert (.iface 83 (.agg #[.int .i64 d, .int .i64 a, .int .i64 k])) 50 85 true).run Tryz.prog w = .ok (.tuple #[.agg #[.int .i64 0, .int .i64 0, .int .i64 0, .int .i64 0], .bool false]) w := by kernel_rfl
theorem ta_shift_ask (d a k : Int) (w : World) : (Instr.typeAssert (.iface 83 (.agg #[.int .i64 d, .int .i64 a, .int .i64 k])) 50 86 true).run Tryz.prog w = .ok (.tuple #[.agg #[.int .i64 0, .int .i64 0, .int .i64 0, .int .i64 0], .bool false]) w := by kernel_rfl
theorem ta_reach_ask (op d a k : Int) (w : World) : (Instr.typeAssert (.iface 85 (.agg #[.int .i64 op, .int .i64 d, .int .i64 a, .int .i64 k])) 50 86 true).run Tryz.prog w = .ok (.tuple #[.agg #[.int .i64 0, .int .i64 0, .int .i64 0, .int .i64 0], .bool false]) w := by kernel_rfl
/-- The blocks of filled: the instruction, the values, the answer. -/
structure Fil (w : World) (n : Nat) (o t v0 v1 v2 : Int) (w1 : World) : Prop where
  bw : Below n w w1
  i : Blk n o 0 0 t w1
  a0 : w1.cell? ⟨n + 1, 0, none⟩ = some (.int .i64 v0)
  a1 : w1.cell? ⟨n + 1, 1, none⟩ = some (.int .i64 v1)
  a2 : w1.cell? ⟨n + 1, 2, none⟩ = some (.int .i64 v2)
  z : Blk (n + 1 + 1) 0 0 0 0 w1
theorem fil_new (w : World) (o t v0 v1 v2 : Int) (t1 t2 t3 : TypeId) : Fil w w.heap.size o t v0 v1 v2 (((w.alloc (.cells #[.int .i64 o, .int .i64 0, .int .i64 0, .int .i64 t] t1)).alloc (.cells #[.int .i64 v0, .int .i64 v1, .int .i64 v2] t2)).alloc (.cells #[.int .i64 0, .int .i64 0, .int .i64 0, .int .i64 0] t3)) := by
  have hz := Blk.new ((w.alloc (.cells #[.int .i64 o, .int .i64 0, .int .i64 0, .int .i64 t] t1)).alloc (.cells #[.int .i64 v0, .int .i64 v1, .int .i64 v2] t2)) 0 0 0 0 t3
  have e : ((w.alloc (.cells #[.int .i64 o, .int .i64 0, .int .i64 0, .int .i64 t] t1)).alloc (.cells #[.int .i64 v0, .int .i64 v1, .int .i64 v2] t2)).heap.size = w.heap.size + 1 + 1 := by simp
  rw [e] at hz
  have eV : (w.alloc (.cells #[.int .i64 o, .int .i64 0, .int .i64 0, .int .i64 t] t1)).heap.size = w.heap.size + 1 := by simp
  have ha (k : Nat) (v : Value) (h : (#[.int .i64 v0, .int .i64 v1, .int .i64 v2] : Array Value)[k]? = some v) : (((w.alloc (.cells #[.int .i64 o, .int .i64 0, .int .i64 0, .int .i64 t] t1)).alloc (.cells #[.int .i64 v0, .int .i64 v1, .int .i64 v2] t2)).alloc (.cells #[.int .i64 0, .int .i64 0, .int .i64 0, .int .i64 0] t3)).cell? ⟨w.heap.size + 1, k, none⟩ = some v := by
    refine cell_below ((Below.refl _ _).alloc (Nat.le_refl _) _) ?_
    rw [← eV]
    generalize (w.alloc (.cells #[.int .i64 o, .int .i64 0, .int .i64 0, .int .i64 t] t1)) = u
    simpa using h
  exact ⟨(((Below.refl _ _).alloc (Nat.le_refl _) _).alloc (by simp) _).alloc (by simp; omega) _, ((Blk.new w o 0 0 t t1).alloc _).alloc _, ha 0 _ rfl, ha 1 _ rfl, ha 2 _ rfl, hz⟩
theorem Fil.below {w w1 w2 : World} {n : Nat} {o t v0 v1 v2 : Int} (h : Fil w n o t v0 v1 v2 w1) (hb : Below w1.heap.size w1 w2) : Fil w n o t v0 v1 v2 w2 :=
  ⟨h.bw.trans (hb.mono (Nat.le_of_lt h.i.lt)), h.i.below hb, cell_below hb h.a0, cell_below hb h.a1, cell_below hb h.a2, h.z.below hb⟩
/-- What is filled in, by kinds. -/
def fillD (o v0 : Int) : Int := if o = 0 ∨ o = 13 then 0 else v0
def fillA (o v0 v1 : Int) : Int := if o = 0 ∨ o = 1 ∨ o = 14 ∨ o = 15 then 0 else if o = 13 then v0 else v1
def fillK (o t v1 v2 : Int) : Int := if o = 0 then t else if o = 1 then v1 else if o = 2 ∨ o = 13 ∨ o = 14 ∨ o = 15 then 0 else v2
set_option maxRecDepth 8000 in
set_option maxHeartbeats 4000000 in
theorem filled_0 (t v0 v1 v2 : Int) (w : World) : Calls Tryz.prog 37 #[.agg #[.int .i64 0, .int .i64 0, .int .i64 0, .int .i64 t], .agg #[.int .i64 v0, .int .i64 v1, .int .i64 v2]] w fun e w' => e = .returned (.agg #[.int .i64 0, .int .i64 0, .int .i64 0, .int .i64 t]) ∧ Below w.heap.size w w' := by
  have t0 := ta_stop_set t
  have t1 := ta_stop_move t
  have t2 := ta_stop_reckon t
  have t3 := ta_stop_shift t
  have t4 := ta_stop_reach t
  have t5 := ta_stop_ask t
  have t6 := ta_stop_go t
  have t7 := ta_stop_pass t
  go_enter Tryz.func37, Tryz.ntmps37
  go_wp2_with fail
  refine (formOf_0 0 0 t _).mono ?_
  rintro e w1 ⟨rfl, hb⟩
  obtain ⟨BW, ⟨ilt, i0, i1, i2, i3, f0, f1, f2, f3⟩, a0, a1, a2, ⟨zlt, z0, z1, z2, z3, g0, g1, g2, g3⟩⟩ := (fil_new _ _ _ _ _ _ _ _ _).below hb
  clear hb
  have hz : w.heap.size ≤ w.heap.size + 1 + 1 := by omega
  go_wp2
  all_goals
    refine bodyPost_ret (v := .agg #[.int .i64 0, .int .i64 0, .int .i64 0, .int .i64 t]) (by simp [results, Tryz.results37, go_sem, z0, z1, z2, z3]) rfl ⟨rfl, ?_⟩
    exact ((((BW.setCell hz _).setCell hz _).setCell hz _).setCell hz _)
set_option maxRecDepth 8000 in
set_option maxHeartbeats 4000000 in
theorem filled_1 (v0 v1 v2 : Int) (w : World) : Calls Tryz.prog 37 #[.agg #[.int .i64 1, .int .i64 0, .int .i64 0, .int .i64 0], .agg #[.int .i64 v0, .int .i64 v1, .int .i64 v2]] w fun e w' => e = .returned (.agg #[.int .i64 1, .int .i64 v0, .int .i64 0, .int .i64 v1]) ∧ Below w.heap.size w w' := by
  have t0 := ta_set_set 0 0
  go_enter Tryz.func37, Tryz.ntmps37
  go_wp2_with fail
  refine (formOf_1 0 0 0 _).mono ?_
  rintro e w1 ⟨rfl, hb⟩
  obtain ⟨BW, ⟨ilt, i0, i1, i2, i3, f0, f1, f2, f3⟩, a0, a1, a2, ⟨zlt, z0, z1, z2, z3, g0, g1, g2, g3⟩⟩ := (fil_new _ _ _ _ _ _ _ _ _).below hb
  clear hb
  have hz : w.heap.size ≤ w.heap.size + 1 + 1 := by omega
  go_wp2
  go_region
  all_goals go_wp2
  all_goals
    refine bodyPost_ret (v := .agg #[.int .i64 1, .int .i64 v0, .int .i64 0, .int .i64 v1]) (by simp [results, Tryz.results37, go_sem, z0, z1, z2, z3]) rfl ⟨rfl, ?_⟩
    exact ((((((BW.setCell (Nat.le_refl _) _).setCell (Nat.le_refl _) _).setCell hz _).setCell hz _).setCell hz _).setCell hz _).drew
set_option maxRecDepth 8000 in
set_option maxHeartbeats 4000000 in
theorem filled_2 (v0 v1 v2 : Int) (w : World) : Calls Tryz.prog 37 #[.agg #[.int .i64 2, .int .i64 0, .int .i64 0, .int .i64 0], .agg #[.int .i64 v0, .int .i64 v1, .int .i64 v2]] w fun e w' => e = .returned (.agg #[.int .i64 2, .int .i64 v0, .int .i64 v1, .int .i64 0]) ∧ Below w.heap.size w w' := by
  have t0 := ta_move_set 0 0
  have t1 := ta_move_move 0 0
  go_enter Tryz.func37, Tryz.ntmps37
  go_wp2_with fail
  refine (formOf_2 0 0 0 _).mono ?_
  rintro e w1 ⟨rfl, hb⟩
  obtain ⟨BW, ⟨ilt, i0, i1, i2, i3, f0, f1, f2, f3⟩, a0, a1, a2, ⟨zlt, z0, z1, z2, z3, g0, g1, g2, g3⟩⟩ := (fil_new _ _ _ _ _ _ _ _ _).below hb
  clear hb
  have hz : w.heap.size ≤ w.heap.size + 1 + 1 := by omega
  go_wp2
  go_region
  all_goals go_wp2
  all_goals
    refine bodyPost_ret (v := .agg #[.int .i64 2, .int .i64 v0, .int .i64 v1, .int .i64 0]) (by simp [results, Tryz.results37, go_sem, z0, z1, z2, z3]) rfl ⟨rfl, ?_⟩
    exact ((((((BW.setCell (Nat.le_refl _) _).setCell (Nat.le_refl _) _).setCell hz _).setCell hz _).setCell hz _).setCell hz _).drew
set_option maxRecDepth 8000 in
set_option maxHeartbeats 4000000 in
theorem filled_3 (v0 v1 v2 : Int) (w : World) : Calls Tryz.prog 37 #[.agg #[.int .i64 3, .int .i64 0, .int .i64 0, .int .i64 0], .agg #[.int .i64 v0, .int .i64 v1, .int .i64 v2]] w fun e w' => e = .returned (.agg #[.int .i64 3, .int .i64 v0, .int .i64 v1, .int .i64 v2]) ∧ Below w.heap.size w w' := by
  have t0 := ta_reckon_set 3 0 0 0
  have t1 := ta_reckon_move 3 0 0 0
  have t2 := ta_reckon_reckon 3 0 0 0
  have t3 := ta_reckon_shift 3 0 0 0
  have t4 := ta_reckon_reach 3 0 0 0
  have t5 := ta_reckon_ask 3 0 0 0
  go_enter Tryz.func37, Tryz.ntmps37
  go_wp2_with fail
  refine (formOf_3 0 0 0 _).mono ?_
  rintro e w1 ⟨rfl, hb⟩
  obtain ⟨BW, ⟨ilt, i0, i1, i2, i3, f0, f1, f2, f3⟩, a0, a1, a2, ⟨zlt, z0, z1, z2, z3, g0, g1, g2, g3⟩⟩ := (fil_new _ _ _ _ _ _ _ _ _).below hb
  clear hb
  have hz : w.heap.size ≤ w.heap.size + 1 + 1 := by omega
  go_wp2
  go_region
  all_goals go_wp2
  all_goals
    refine bodyPost_ret (v := .agg #[.int .i64 3, .int .i64 v0, .int .i64 v1, .int .i64 v2]) (by simp [results, Tryz.results37, go_sem, z0, z1, z2, z3]) rfl ⟨rfl, ?_⟩
    exact (((((((BW.setCell (Nat.le_refl _) _).setCell (Nat.le_refl _) _).setCell (Nat.le_refl _) _).setCell hz _).setCell hz _).setCell hz _).setCell hz _).drew
set_option maxRecDepth 8000 in
set_option maxHeartbeats 4000000 in
theorem filled_4 (v0 v1 v2 : Int) (w : World) : Calls Tryz.prog 37 #[.agg #[.int .i64 4, .int .i64 0, .int .i64 0, .int .i64 0], .agg #[.int .i64 v0, .int .i64 v1, .int .i64 v2]] w fun e w' => e = .returned (.agg #[.int .i64 4, .int .i64 v0, .int .i64 v1, .int .i64 v2]) ∧ Below w.heap.size w w' := by
  have t0 := ta_reckon_set 4 0 0 0
  have t1 := ta_reckon_move 4 0 0 0
  have t2 := ta_reckon_reckon 4 0 0 0
  have t3 := ta_reckon_shift 4 0 0 0
  have t4 := ta_reckon_reach 4 0 0 0
  have t5 := ta_reckon_ask 4 0 0 0
  go_enter Tryz.func37, Tryz.ntmps37
  go_wp2_with fail
  refine (formOf_4 0 0 0 _).mono ?_
  rintro e w1 ⟨rfl, hb⟩
  obtain ⟨BW, ⟨ilt, i0, i1, i2, i3, f0, f1, f2, f3⟩, a0, a1, a2, ⟨zlt, z0, z1, z2, z3, g0, g1, g2, g3⟩⟩ := (fil_new _ _ _ _ _ _ _ _ _).below hb
  clear hb
  have hz : w.heap.size ≤ w.heap.size + 1 + 1 := by omega
  go_wp2
  go_region
  all_goals go_wp2
  all_goals
    refine bodyPost_ret (v := .agg #[.int .i64 4, .int .i64 v0, .int .i64 v1, .int .i64 v2]) (by simp [results, Tryz.results37, go_sem, z0, z1, z2, z3]) rfl ⟨rfl, ?_⟩
    exact (((((((BW.setCell (Nat.le_refl _) _).setCell (Nat.le_refl _) _).setCell (Nat.le_refl _) _).setCell hz _).setCell hz _).setCell hz _).setCell hz _).drew
set_option maxRecDepth 8000 in
set_option maxHeartbeats 4000000 in
theorem filled_5 (v0 v1 v2 : Int) (w : World) : Calls Tryz.prog 37 #[.agg #[.int .i64 5, .int .i64 0, .int .i64 0, .int .i64 0], .agg #[.int .i64 v0, .int .i64 v1, .int .i64 v2]] w fun e w' => e = .returned (.agg #[.int .i64 5, .int .i64 v0, .int .i64 v1, .int .i64 v2]) ∧ Below w.heap.size w w' := by
  have t0 := ta_reckon_set 5 0 0 0
  have t1 := ta_reckon_move 5 0 0 0
  have t2 := ta_reckon_reckon 5 0 0 0
  have t3 := ta_reckon_shift 5 0 0 0
  have t4 := ta_reckon_reach 5 0 0 0
  have t5 := ta_reckon_ask 5 0 0 0
  go_enter Tryz.func37, Tryz.ntmps37
  go_wp2_with fail
  refine (formOf_5 0 0 0 _).mono ?_
  rintro e w1 ⟨rfl, hb⟩
  obtain ⟨BW, ⟨ilt, i0, i1, i2, i3, f0, f1, f2, f3⟩, a0, a1, a2, ⟨zlt, z0, z1, z2, z3, g0, g1, g2, g3⟩⟩ := (fil_new _ _ _ _ _ _ _ _ _).below hb
  clear hb
  have hz : w.heap.size ≤ w.heap.size + 1 + 1 := by omega
  go_wp2
  go_region
  all_goals go_wp2
  all_goals
    refine bodyPost_ret (v := .agg #[.int .i64 5, .int .i64 v0, .int .i64 v1, .int .i64 v2]) (by simp [results, Tryz.results37, go_sem, z0, z1, z2, z3]) rfl ⟨rfl, ?_⟩
    exact (((((((BW.setCell (Nat.le_refl _) _).setCell (Nat.le_refl _) _).setCell (Nat.le_refl _) _).setCell hz _).setCell hz _).setCell hz _).setCell hz _).drew
set_option maxRecDepth 8000 in
set_option maxHeartbeats 4000000 in
theorem filled_6 (v0 v1 v2 : Int) (w : World) : Calls Tryz.prog 37 #[.agg #[.int .i64 6, .int .i64 0, .int .i64 0, .int .i64 0], .agg #[.int .i64 v0, .int .i64 v1, .int .i64 v2]] w fun e w' => e = .returned (.agg #[.int .i64 6, .int .i64 v0, .int .i64 v1, .int .i64 v2]) ∧ Below w.heap.size w w' := by
  have t0 := ta_reckon_set 6 0 0 0
  have t1 := ta_reckon_move 6 0 0 0
  have t2 := ta_reckon_reckon 6 0 0 0
  have t3 := ta_reckon_shift 6 0 0 0
  have t4 := ta_reckon_reach 6 0 0 0
  have t5 := ta_reckon_ask 6 0 0 0
  go_enter Tryz.func37, Tryz.ntmps37
  go_wp2_with fail
  refine (formOf_6 0 0 0 _).mono ?_
  rintro e w1 ⟨rfl, hb⟩
  obtain ⟨BW, ⟨ilt, i0, i1, i2, i3, f0, f1, f2, f3⟩, a0, a1, a2, ⟨zlt, z0, z1, z2, z3, g0, g1, g2, g3⟩⟩ := (fil_new _ _ _ _ _ _ _ _ _).below hb
  clear hb
  have hz : w.heap.size ≤ w.heap.size + 1 + 1 := by omega
  go_wp2
  go_region
  all_goals go_wp2
  all_goals
    refine bodyPost_ret (v := .agg #[.int .i64 6, .int .i64 v0, .int .i64 v1, .int .i64 v2]) (by simp [results, Tryz.results37, go_sem, z0, z1, z2, z3]) rfl ⟨rfl, ?_⟩
    exact (((((((BW.setCell (Nat.le_refl _) _).setCell (Nat.le_refl _) _).setCell (Nat.le_refl _) _).setCell hz _).setCell hz _).setCell hz _).setCell hz _).drew
set_option maxRecDepth 8000 in
set_option maxHeartbeats 4000000 in
theorem filled_7 (v0 v1 v2 : Int) (w : World) : Calls Tryz.prog 37 #[.agg #[.int .i64 7, .int .i64 0, .int .i64 0, .int .i64 0], .agg #[.int .i64 v0, .int .i64 v1, .int .i64 v2]] w fun e w' => e = .returned (.agg #[.int .i64 7, .int .i64 v0, .int .i64 v1, .int .i64 v2]) ∧ Below w.heap.size w w' := by
  have t0 := ta_reckon_set 7 0 0 0
  have t1 := ta_reckon_move 7 0 0 0
  have t2 := ta_reckon_reckon 7 0 0 0
  have t3 := ta_reckon_shift 7 0 0 0
  have t4 := ta_reckon_reach 7 0 0 0
  have t5 := ta_reckon_ask 7 0 0 0
  go_enter Tryz.func37, Tryz.ntmps37
  go_wp2_with fail
  refine (formOf_7 0 0 0 _).mono ?_
  rintro e w1 ⟨rfl, hb⟩
  obtain ⟨BW, ⟨ilt, i0, i1, i2, i3, f0, f1, f2, f3⟩, a0, a1, a2, ⟨zlt, z0, z1, z2, z3, g0, g1, g2, g3⟩⟩ := (fil_new _ _ _ _ _ _ _ _ _).below hb
  clear hb
  have hz : w.heap.size ≤ w.heap.size + 1 + 1 := by omega
  go_wp2
  go_region
  all_goals go_wp2
  all_goals
    refine bodyPost_ret (v := .agg #[.int .i64 7, .int .i64 v0, .int .i64 v1, .int .i64 v2]) (by simp [results, Tryz.results37, go_sem, z0, z1, z2, z3]) rfl ⟨rfl, ?_⟩
    exact (((((((BW.setCell (Nat.le_refl _) _).setCell (Nat.le_refl _) _).setCell (Nat.le_refl _) _).setCell hz _).setCell hz _).setCell hz _).setCell hz _).drew
set_option maxRecDepth 8000 in
set_option maxHeartbeats 4000000 in
theorem filled_8 (v0 v1 v2 : Int) (w : World) : Calls Tryz.prog 37 #[.agg #[.int .i64 8, .int .i64 0, .int .i64 0, .int .i64 0], .agg #[.int .i64 v0, .int .i64 v1, .int .i64 v2]] w fun e w' => e = .returned (.agg #[.int .i64 8, .int .i64 v0, .int .i64 v1, .int .i64 v2]) ∧ Below w.heap.size w w' := by
  have t0 := ta_shift_set 0 0 0
  have t1 := ta_shift_move 0 0 0
  have t2 := ta_shift_reckon 0 0 0
  have t3 := ta_shift_shift 0 0 0
  have t4 := ta_shift_reach 0 0 0
  have t5 := ta_shift_ask 0 0 0
  go_enter Tryz.func37, Tryz.ntmps37
  go_wp2_with fail
  refine (formOf_8 0 0 0 _).mono ?_
  rintro e w1 ⟨rfl, hb⟩
  obtain ⟨BW, ⟨ilt, i0, i1, i2, i3, f0, f1, f2, f3⟩, a0, a1, a2, ⟨zlt, z0, z1, z2, z3, g0, g1, g2, g3⟩⟩ := (fil_new _ _ _ _ _ _ _ _ _).below hb
  clear hb
  have hz : w.heap.size ≤ w.heap.size + 1 + 1 := by omega
  go_wp2
  go_region
  all_goals go_wp2
  all_goals
    refine bodyPost_ret (v := .agg #[.int .i64 8, .int .i64 v0, .int .i64 v1, .int .i64 v2]) (by simp [results, Tryz.results37, go_sem, z0, z1, z2, z3]) rfl ⟨rfl, ?_⟩
    exact (((((((BW.setCell (Nat.le_refl _) _).setCell (Nat.le_refl _) _).setCell (Nat.le_refl _) _).setCell hz _).setCell hz _).setCell hz _).setCell hz _).drew
set_option maxRecDepth 8000 in
set_option maxHeartbeats 4000000 in
theorem filled_9 (v0 v1 v2 : Int) (w : World) : Calls Tryz.prog 37 #[.agg #[.int .i64 9, .int .i64 0, .int .i64 0, .int .i64 0], .agg #[.int .i64 v0, .int .i64 v1, .int .i64 v2]] w fun e w' => e = .returned (.agg #[.int .i64 9, .int .i64 v0, .int .i64 v1, .int .i64 v2]) ∧ Below w.heap.size w w' := by
  have t0 := ta_reach_set 9 0 0 0
  have t1 := ta_reach_move 9 0 0 0
  have t2 := ta_reach_reckon 9 0 0 0
  have t3 := ta_reach_shift 9 0 0 0
  have t4 := ta_reach_reach 9 0 0 0
  have t5 := ta_reach_ask 9 0 0 0
  go_enter Tryz.func37, Tryz.ntmps37
  go_wp2_with fail
  refine (formOf_9 0 0 0 _).mono ?_
  rintro e w1 ⟨rfl, hb⟩
  obtain ⟨BW, ⟨ilt, i0, i1, i2, i3, f0, f1, f2, f3⟩, a0, a1, a2, ⟨zlt, z0, z1, z2, z3, g0, g1, g2, g3⟩⟩ := (fil_new _ _ _ _ _ _ _ _ _).below hb
  clear hb
  have hz : w.heap.size ≤ w.heap.size + 1 + 1 := by omega
  go_wp2
  go_region
  all_goals go_wp2
  all_goals
    refine bodyPost_ret (v := .agg #[.int .i64 9, .int .i64 v0, .int .i64 v1, .int .i64 v2]) (by simp [results, Tryz.results37, go_sem, z0, z1, z2, z3]) rfl ⟨rfl, ?_⟩
    exact (((((((BW.setCell (Nat.le_refl _) _).setCell (Nat.le_refl _) _).setCell (Nat.le_refl _) _).setCell hz _).setCell hz _).setCell hz _).setCell hz _).drew
set_option maxRecDepth 8000 in
set_option maxHeartbeats 4000000 in
theorem filled_10 (v0 v1 v2 : Int) (w : World) : Calls Tryz.prog 37 #[.agg #[.int .i64 10, .int .i64 0, .int .i64 0, .int .i64 0], .agg #[.int .i64 v0, .int .i64 v1, .int .i64 v2]] w fun e w' => e = .returned (.agg #[.int .i64 10, .int .i64 v0, .int .i64 v1, .int .i64 v2]) ∧ Below w.heap.size w w' := by
  have t0 := ta_reach_set 10 0 0 0
  have t1 := ta_reach_move 10 0 0 0
  have t2 := ta_reach_reckon 10 0 0 0
  have t3 := ta_reach_shift 10 0 0 0
  have t4 := ta_reach_reach 10 0 0 0
  have t5 := ta_reach_ask 10 0 0 0
  go_enter Tryz.func37, Tryz.ntmps37
  go_wp2_with fail
  refine (formOf_10 0 0 0 _).mono ?_
  rintro e w1 ⟨rfl, hb⟩
  obtain ⟨BW, ⟨ilt, i0, i1, i2, i3, f0, f1, f2, f3⟩, a0, a1, a2, ⟨zlt, z0, z1, z2, z3, g0, g1, g2, g3⟩⟩ := (fil_new _ _ _ _ _ _ _ _ _).below hb
  clear hb
  have hz : w.heap.size ≤ w.heap.size + 1 + 1 := by omega
  go_wp2
  go_region
  all_goals go_wp2
  all_goals
    refine bodyPost_ret (v := .agg #[.int .i64 10, .int .i64 v0, .int .i64 v1, .int .i64 v2]) (by simp [results, Tryz.results37, go_sem, z0, z1, z2, z3]) rfl ⟨rfl, ?_⟩
    exact (((((((BW.setCell (Nat.le_refl _) _).setCell (Nat.le_refl _) _).setCell (Nat.le_refl _) _).setCell hz _).setCell hz _).setCell hz _).setCell hz _).drew
set_option maxRecDepth 8000 in
set_option maxHeartbeats 4000000 in
theorem filled_11 (v0 v1 v2 : Int) (w : World) : Calls Tryz.prog 37 #[.agg #[.int .i64 11, .int .i64 0, .int .i64 0, .int .i64 0], .agg #[.int .i64 v0, .int .i64 v1, .int .i64 v2]] w fun e w' => e = .returned (.agg #[.int .i64 11, .int .i64 v0, .int .i64 v1, .int .i64 v2]) ∧ Below w.heap.size w w' := by
  have t0 := ta_ask_set 11 0 0 0
  have t1 := ta_ask_move 11 0 0 0
  have t2 := ta_ask_reckon 11 0 0 0
  have t3 := ta_ask_shift 11 0 0 0
  have t4 := ta_ask_reach 11 0 0 0
  have t5 := ta_ask_ask 11 0 0 0
  go_enter Tryz.func37, Tryz.ntmps37
  go_wp2_with fail
  refine (formOf_11 0 0 0 _).mono ?_
  rintro e w1 ⟨rfl, hb⟩
  obtain ⟨BW, ⟨ilt, i0, i1, i2, i3, f0, f1, f2, f3⟩, a0, a1, a2, ⟨zlt, z0, z1, z2, z3, g0, g1, g2, g3⟩⟩ := (fil_new _ _ _ _ _ _ _ _ _).below hb
  clear hb
  have hz : w.heap.size ≤ w.heap.size + 1 + 1 := by omega
  go_wp2
  go_region
  all_goals go_wp2
  all_goals
    refine bodyPost_ret (v := .agg #[.int .i64 11, .int .i64 v0, .int .i64 v1, .int .i64 v2]) (by simp [results, Tryz.results37, go_sem, z0, z1, z2, z3]) rfl ⟨rfl, ?_⟩
    exact (((((((BW.setCell (Nat.le_refl _) _).setCell (Nat.le_refl _) _).setCell (Nat.le_refl _) _).setCell hz _).setCell hz _).setCell hz _).setCell hz _).drew
set_option maxRecDepth 8000 in
set_option maxHeartbeats 4000000 in
theorem filled_12 (v0 v1 v2 : Int) (w : World) : Calls Tryz.prog 37 #[.agg #[.int .i64 12, .int .i64 0, .int .i64 0, .int .i64 0], .agg #[.int .i64 v0, .int .i64 v1, .int .i64 v2]] w fun e w' => e = .returned (.agg #[.int .i64 12, .int .i64 v0, .int .i64 v1, .int .i64 v2]) ∧ Below w.heap.size w w' := by
  have t0 := ta_ask_set 12 0 0 0
  have t1 := ta_ask_move 12 0 0 0
  have t2 := ta_ask_reckon 12 0 0 0
  have t3 := ta_ask_shift 12 0 0 0
  have t4 := ta_ask_reach 12 0 0 0
  have t5 := ta_ask_ask 12 0 0 0
  go_enter Tryz.func37, Tryz.ntmps37
  go_wp2_with fail
  refine (formOf_12 0 0 0 _).mono ?_
  rintro e w1 ⟨rfl, hb⟩
  obtain ⟨BW, ⟨ilt, i0, i1, i2, i3, f0, f1, f2, f3⟩, a0, a1, a2, ⟨zlt, z0, z1, z2, z3, g0, g1, g2, g3⟩⟩ := (fil_new _ _ _ _ _ _ _ _ _).below hb
  clear hb
  have hz : w.heap.size ≤ w.heap.size + 1 + 1 := by omega
  go_wp2
  go_region
  all_goals go_wp2
  all_goals
    refine bodyPost_ret (v := .agg #[.int .i64 12, .int .i64 v0, .int .i64 v1, .int .i64 v2]) (by simp [results, Tryz.results37, go_sem, z0, z1, z2, z3]) rfl ⟨rfl, ?_⟩
    exact (((((((BW.setCell (Nat.le_refl _) _).setCell (Nat.le_refl _) _).setCell (Nat.le_refl _) _).setCell hz _).setCell hz _).setCell hz _).setCell hz _).drew
set_option maxRecDepth 8000 in
set_option maxHeartbeats 4000000 in
theorem filled_13 (v0 v1 v2 : Int) (w : World) : Calls Tryz.prog 37 #[.agg #[.int .i64 13, .int .i64 0, .int .i64 0, .int .i64 0], .agg #[.int .i64 v0, .int .i64 v1, .int .i64 v2]] w fun e w' => e = .returned (.agg #[.int .i64 13, .int .i64 0, .int .i64 v0, .int .i64 0]) ∧ Below w.heap.size w w' := by
  have t0 := ta_go_set 0
  have t1 := ta_go_move 0
  have t2 := ta_go_reckon 0
  have t3 := ta_go_shift 0
  have t4 := ta_go_reach 0
  have t5 := ta_go_ask 0
  have t6 := ta_go_go 0
  go_enter Tryz.func37, Tryz.ntmps37
  go_wp2_with fail
  refine (formOf_13 0 0 0 _).mono ?_
  rintro e w1 ⟨rfl, hb⟩
  obtain ⟨BW, ⟨ilt, i0, i1, i2, i3, f0, f1, f2, f3⟩, a0, a1, a2, ⟨zlt, z0, z1, z2, z3, g0, g1, g2, g3⟩⟩ := (fil_new _ _ _ _ _ _ _ _ _).below hb
  clear hb
  have hz : w.heap.size ≤ w.heap.size + 1 + 1 := by omega
  go_wp2
  all_goals
    refine bodyPost_ret (v := .agg #[.int .i64 13, .int .i64 0, .int .i64 v0, .int .i64 0]) (by simp [results, Tryz.results37, go_sem, z0, z1, z2, z3]) rfl ⟨rfl, ?_⟩
    exact (((((BW.setCell (Nat.le_refl _) _).setCell hz _).setCell hz _).setCell hz _).setCell hz _)
set_option maxRecDepth 8000 in
set_option maxHeartbeats 4000000 in
theorem filled_14 (v0 v1 v2 : Int) (w : World) : Calls Tryz.prog 37 #[.agg #[.int .i64 14, .int .i64 0, .int .i64 0, .int .i64 0], .agg #[.int .i64 v0, .int .i64 v1, .int .i64 v2]] w fun e w' => e = .returned (.agg #[.int .i64 14, .int .i64 v0, .int .i64 0, .int .i64 0]) ∧ Below w.heap.size w w' := by
  have t0 := ta_pass_set 14 0
  have t1 := ta_pass_move 14 0
  have t2 := ta_pass_reckon 14 0
  have t3 := ta_pass_shift 14 0
  have t4 := ta_pass_reach 14 0
  have t5 := ta_pass_ask 14 0
  have t6 := ta_pass_go 14 0
  have t7 := ta_pass_pass 14 0
  go_enter Tryz.func37, Tryz.ntmps37
  go_wp2_with fail
  refine (formOf_14 0 0 0 _).mono ?_
  rintro e w1 ⟨rfl, hb⟩
  obtain ⟨BW, ⟨ilt, i0, i1, i2, i3, f0, f1, f2, f3⟩, a0, a1, a2, ⟨zlt, z0, z1, z2, z3, g0, g1, g2, g3⟩⟩ := (fil_new _ _ _ _ _ _ _ _ _).below hb
  clear hb
  have hz : w.heap.size ≤ w.heap.size + 1 + 1 := by omega
  go_wp2
  all_goals
    refine bodyPost_ret (v := .agg #[.int .i64 14, .int .i64 v0, .int .i64 0, .int .i64 0]) (by simp [results, Tryz.results37, go_sem, z0, z1, z2, z3]) rfl ⟨rfl, ?_⟩
    exact (((((BW.setCell (Nat.le_refl _) _).setCell hz _).setCell hz _).setCell hz _).setCell hz _)
set_option maxRecDepth 8000 in
set_option maxHeartbeats 4000000 in
theorem filled_15 (v0 v1 v2 : Int) (w : World) : Calls Tryz.prog 37 #[.agg #[.int .i64 15, .int .i64 0, .int .i64 0, .int .i64 0], .agg #[.int .i64 v0, .int .i64 v1, .int .i64 v2]] w fun e w' => e = .returned (.agg #[.int .i64 15, .int .i64 v0, .int .i64 0, .int .i64 0]) ∧ Below w.heap.size w w' := by
  have t0 := ta_pass_set 15 0
  have t1 := ta_pass_move 15 0
  have t2 := ta_pass_reckon 15 0
  have t3 := ta_pass_shift 15 0
  have t4 := ta_pass_reach 15 0
  have t5 := ta_pass_ask 15 0
  have t6 := ta_pass_go 15 0
  have t7 := ta_pass_pass 15 0
  go_enter Tryz.func37, Tryz.ntmps37
  go_wp2_with fail
  refine (formOf_15 0 0 0 _).mono ?_
  rintro e w1 ⟨rfl, hb⟩
  obtain ⟨BW, ⟨ilt, i0, i1, i2, i3, f0, f1, f2, f3⟩, a0, a1, a2, ⟨zlt, z0, z1, z2, z3, g0, g1, g2, g3⟩⟩ := (fil_new _ _ _ _ _ _ _ _ _).below hb
  clear hb
  have hz : w.heap.size ≤ w.heap.size + 1 + 1 := by omega
  go_wp2
  all_goals
    refine bodyPost_ret (v := .agg #[.int .i64 15, .int .i64 v0, .int .i64 0, .int .i64 0]) (by simp [results, Tryz.results37, go_sem, z0, z1, z2, z3]) rfl ⟨rfl, ?_⟩
    exact (((((BW.setCell (Nat.le_refl _) _).setCell hz _).setCell hz _).setCell hz _).setCell hz _)
theorem agg_4 {a b c d a' b' c' d' : Int} (h1 : a = a') (h2 : b = b') (h3 : c = c') (h4 : d = d') : Ending.returned (.agg #[.int .i64 a, .int .i64 b, .int .i64 c, .int .i64 d]) = .returned (.agg #[.int .i64 a', .int .i64 b', .int .i64 c', .int .i64 d']) := by rw [h1, h2, h3, h4]
/-- The program's filled at a kind that byName tells. -/
theorem filled (o t v0 v1 v2 : Int) (w : World) (h0 : 0 ≤ o) (h1 : o ≤ 15) (ht : ¬ o = 0 → t = 0) : Calls Tryz.prog 37 #[.agg #[.int .i64 o, .int .i64 0, .int .i64 0, .int .i64 t], .agg #[.int .i64 v0, .int .i64 v1, .int .i64 v2]] w fun e w' => e = .returned (.agg #[.int .i64 o, .int .i64 (fillD o v0), .int .i64 (fillA o v0 v1), .int .i64 (fillK o t v1 v2)]) ∧ Below w.heap.size w w' := by
  rcases ops16 h0 h1 with rfl | rfl | rfl | rfl | rfl | rfl | rfl | rfl | rfl | rfl | rfl | rfl | rfl | rfl | rfl | rfl
  · exact filled_0 t v0 v1 v2 w
  · rw [ht (by omega)]
    exact filled_1 v0 v1 v2 w
  · rw [ht (by omega)]
    exact filled_2 v0 v1 v2 w
  · rw [ht (by omega)]
    exact filled_3 v0 v1 v2 w
  · rw [ht (by omega)]
    exact filled_4 v0 v1 v2 w
  · rw [ht (by omega)]
    exact filled_5 v0 v1 v2 w
  · rw [ht (by omega)]
    exact filled_6 v0 v1 v2 w
  · rw [ht (by omega)]
    exact filled_7 v0 v1 v2 w
  · rw [ht (by omega)]
    exact filled_8 v0 v1 v2 w
  · rw [ht (by omega)]
    exact filled_9 v0 v1 v2 w
  · rw [ht (by omega)]
    exact filled_10 v0 v1 v2 w
  · rw [ht (by omega)]
    exact filled_11 v0 v1 v2 w
  · rw [ht (by omega)]
    exact filled_12 v0 v1 v2 w
  · rw [ht (by omega)]
    exact filled_13 v0 v1 v2 w
  · rw [ht (by omega)]
    exact filled_14 v0 v1 v2 w
  · rw [ht (by omega)]
    exact filled_15 v0 v1 v2 w
end Go.Proofs.YthpajjlhjfhdpaaGreatDoor.InsI
