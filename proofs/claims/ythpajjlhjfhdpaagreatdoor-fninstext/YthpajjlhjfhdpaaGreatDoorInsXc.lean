/-
  The words of what is stopped.
-/
import Derived.Test.YthpajjlhjfhdpaaGreatDoorInsX
namespace Go.Proofs.YthpajjlhjfhdpaaGreatDoor.InsI
open Go.ChangeShapes Go.WideShapes Go.ChangeAt Go.RowKit Ins
set_option maxHeartbeats 4000000 in
theorem words_s0 (w : World) (ht : Tabs w) : Calls Tryz.prog 26 #[.iface 75 (.agg #[.int .i64 0])] w (Words4 w [stopS 0]) := by
  have ht1 := ht.below ((Below.refl _ _).alloc (Nat.le_refl _) (.cells #[.int .i64 0] 75))
  have B1 : Below w.heap.size w (w.alloc (.cells #[.int .i64 0] 75)) := (Below.refl _ _).alloc (Nat.le_refl _) _
  obtain ⟨b, o, c, c0, c1, n0, n1⟩ := ht1.stops
  have n2 : (w.alloc (.cells #[.int .i64 0] 75)).cell? ⟨b, o, none⟩ = some (.string (stopS 0)) := n1 0 (by omega)
  clear n1 ht ht1
  have t0 := ta_stop_stop 0
  go_enter Tryz.func26, Tryz.ntmps26
  go_wp2
  go_ret
  refine ⟨_, rfl, fun j x h => ?_, by simp, B1.alloc (by simp) _⟩
  have q := words_cells (w.alloc (.cells #[.int .i64 0] 75)) [stopS 0] 9 j x h
  have hsz : (w.alloc (.cells #[.int .i64 0] 75)).heap.size = w.heap.size + 1 := by simp
  rw [hsz] at q
  exact q
set_option maxHeartbeats 4000000 in
theorem words_s1 (w : World) (ht : Tabs w) : Calls Tryz.prog 26 #[.iface 75 (.agg #[.int .i64 1])] w (Words4 w [stopS 1]) := by
  have ht1 := ht.below ((Below.refl _ _).alloc (Nat.le_refl _) (.cells #[.int .i64 1] 75))
  have B1 : Below w.heap.size w (w.alloc (.cells #[.int .i64 1] 75)) := (Below.refl _ _).alloc (Nat.le_refl _) _
  obtain ⟨b, o, c, c0, c1, n0, n1⟩ := ht1.stops
  have n2 : (w.alloc (.cells #[.int .i64 1] 75)).cell? ⟨b, o + 1, none⟩ = some (.string (stopS 1)) := n1 1 (by omega)
  clear n1 ht ht1
  have t0 := ta_stop_stop 1
  go_enter Tryz.func26, Tryz.ntmps26
  go_wp2
  go_ret
  refine ⟨_, rfl, fun j x h => ?_, by simp, B1.alloc (by simp) _⟩
  have q := words_cells (w.alloc (.cells #[.int .i64 1] 75)) [stopS 1] 9 j x h
  have hsz : (w.alloc (.cells #[.int .i64 1] 75)).heap.size = w.heap.size + 1 := by simp
  rw [hsz] at q
  exact q
set_option maxHeartbeats 4000000 in
theorem words_s2 (w : World) (ht : Tabs w) : Calls Tryz.prog 26 #[.iface 75 (.agg #[.int .i64 2])] w (Words4 w [stopS 2]) := by
  have ht1 := ht.below ((Below.refl _ _).alloc (Nat.le_refl _) (.cells #[.int .i64 2] 75))
  have B1 : Below w.heap.size w (w.alloc (.cells #[.int .i64 2] 75)) := (Below.refl _ _).alloc (Nat.le_refl _) _
  obtain ⟨b, o, c, c0, c1, n0, n1⟩ := ht1.stops
  have n2 : (w.alloc (.cells #[.int .i64 2] 75)).cell? ⟨b, o + 2, none⟩ = some (.string (stopS 2)) := n1 2 (by omega)
  clear n1 ht ht1
  have t0 := ta_stop_stop 2
  go_enter Tryz.func26, Tryz.ntmps26
  go_wp2
  go_ret
  refine ⟨_, rfl, fun j x h => ?_, by simp, B1.alloc (by simp) _⟩
  have q := words_cells (w.alloc (.cells #[.int .i64 2] 75)) [stopS 2] 9 j x h
  have hsz : (w.alloc (.cells #[.int .i64 2] 75)).heap.size = w.heap.size + 1 := by simp
  rw [hsz] at q
  exact q
set_option maxHeartbeats 4000000 in
theorem words_s3 (w : World) (ht : Tabs w) : Calls Tryz.prog 26 #[.iface 75 (.agg #[.int .i64 3])] w (Words4 w [stopS 3]) := by
  have ht1 := ht.below ((Below.refl _ _).alloc (Nat.le_refl _) (.cells #[.int .i64 3] 75))
  have B1 : Below w.heap.size w (w.alloc (.cells #[.int .i64 3] 75)) := (Below.refl _ _).alloc (Nat.le_refl _) _
  obtain ⟨b, o, c, c0, c1, n0, n1⟩ := ht1.stops
  have n2 : (w.alloc (.cells #[.int .i64 3] 75)).cell? ⟨b, o + 3, none⟩ = some (.string (stopS 3)) := n1 3 (by omega)
  clear n1 ht ht1
  have t0 := ta_stop_stop 3
  go_enter Tryz.func26, Tryz.ntmps26
  go_wp2
  go_ret
  refine ⟨_, rfl, fun j x h => ?_, by simp, B1.alloc (by simp) _⟩
  have q := words_cells (w.alloc (.cells #[.int .i64 3] 75)) [stopS 3] 9 j x h
  have hsz : (w.alloc (.cells #[.int .i64 3] 75)).heap.size = w.heap.size + 1 := by simp
  rw [hsz] at q
  exact q
end Go.Proofs.YthpajjlhjfhdpaaGreatDoor.InsI
