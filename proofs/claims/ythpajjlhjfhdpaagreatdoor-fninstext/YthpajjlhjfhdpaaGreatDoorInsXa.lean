/-
  The words of the forms of the kinds 1 to 7.
-/
import Derived.Test.YthpajjlhjfhdpaaGreatDoorInsX
namespace Go.Proofs.YthpajjlhjfhdpaaGreatDoor.InsI
open Go.ChangeShapes Go.WideShapes Go.ChangeAt Go.RowKit Ins
set_option maxRecDepth 8000 in
set_option maxHeartbeats 4000000 in
theorem words_1 (d k : Int) (w : World) (d0 : 0 ≤ d) (d1 : d ≤ 3) (k0 : 0 ≤ k) (k1 : k ≤ 255) (ht : Tabs w) : Calls Tryz.prog 26 #[.iface 77 (.agg #[.int .i64 d, .int .i64 k])] w (Words4 w [nameS 1, regS d, digS k]) := by
  have ht1 := ht.below ((Below.refl _ _).alloc (Nat.le_refl _) (.cells #[.int .i64 d, .int .i64 k] 77))
  obtain ⟨b, o, c, c0, c1, n0, n1⟩ := ht1.names
  have n2 := n1 1 (by omega)
  have S0 : ((w.alloc (.cells #[.int .i64 d, .int .i64 k] 77)).cell? ⟨1, 0, none⟩ = some (.slice (some ⟨b, o, none⟩) 16 c) ∧ (w.alloc (.cells #[.int .i64 d, .int .i64 k] 77)).cell? ⟨b, o + 1, none⟩ = some (.string (nameS 1)) ∧ (w.alloc (.cells #[.int .i64 d, .int .i64 k] 77)).cell? ⟨w.heap.size, 0, none⟩ = some (.int .i64 d) ∧ (w.alloc (.cells #[.int .i64 d, .int .i64 k] 77)).cell? ⟨w.heap.size, 1, none⟩ = some (.int .i64 k) ∧ Tabs (w.alloc (.cells #[.int .i64 d, .int .i64 k] 77)) ∧ Below w.heap.size w (w.alloc (.cells #[.int .i64 d, .int .i64 k] 77))) := ⟨n0, n2, by simp, by simp, ht1, (Below.refl _ _).alloc (Nat.le_refl _) _⟩
  have KB : ∀ v v' : World, (v.cell? ⟨1, 0, none⟩ = some (.slice (some ⟨b, o, none⟩) 16 c) ∧ v.cell? ⟨b, o + 1, none⟩ = some (.string (nameS 1)) ∧ v.cell? ⟨w.heap.size, 0, none⟩ = some (.int .i64 d) ∧ v.cell? ⟨w.heap.size, 1, none⟩ = some (.int .i64 k) ∧ Tabs v ∧ Below w.heap.size w v) → Below v.heap.size v v' → (v'.cell? ⟨1, 0, none⟩ = some (.slice (some ⟨b, o, none⟩) 16 c) ∧ v'.cell? ⟨b, o + 1, none⟩ = some (.string (nameS 1)) ∧ v'.cell? ⟨w.heap.size, 0, none⟩ = some (.int .i64 d) ∧ v'.cell? ⟨w.heap.size, 1, none⟩ = some (.int .i64 k) ∧ Tabs v' ∧ Below w.heap.size w v') := fun v v' h hb => ⟨cell_below hb h.1, cell_below hb h.2.1, cell_below hb h.2.2.1, cell_below hb h.2.2.2.1, (h.2.2.2.2.1).below hb, (h.2.2.2.2.2).trans (hb.mono (h.2.2.2.2.2).size)⟩
  have KD : ∀ v : World, (v.cell? ⟨1, 0, none⟩ = some (.slice (some ⟨b, o, none⟩) 16 c) ∧ v.cell? ⟨b, o + 1, none⟩ = some (.string (nameS 1)) ∧ v.cell? ⟨w.heap.size, 0, none⟩ = some (.int .i64 d) ∧ v.cell? ⟨w.heap.size, 1, none⟩ = some (.int .i64 k) ∧ Tabs v ∧ Below w.heap.size w v) → (v.drew.cell? ⟨1, 0, none⟩ = some (.slice (some ⟨b, o, none⟩) 16 c) ∧ v.drew.cell? ⟨b, o + 1, none⟩ = some (.string (nameS 1)) ∧ v.drew.cell? ⟨w.heap.size, 0, none⟩ = some (.int .i64 d) ∧ v.drew.cell? ⟨w.heap.size, 1, none⟩ = some (.int .i64 k) ∧ Tabs v.drew ∧ Below w.heap.size w v.drew) := fun v h => ⟨h.1, h.2.1, h.2.2.1, h.2.2.2.1, (h.2.2.2.2.1).drew, (h.2.2.2.2.2).drew⟩
  have KT : ∀ v : World, (v.cell? ⟨1, 0, none⟩ = some (.slice (some ⟨b, o, none⟩) 16 c) ∧ v.cell? ⟨b, o + 1, none⟩ = some (.string (nameS 1)) ∧ v.cell? ⟨w.heap.size, 0, none⟩ = some (.int .i64 d) ∧ v.cell? ⟨w.heap.size, 1, none⟩ = some (.int .i64 k) ∧ Tabs v ∧ Below w.heap.size w v) → Tabs v := fun v h => h.2.2.2.2.1
  have KF : ∀ v : World, (v.cell? ⟨1, 0, none⟩ = some (.slice (some ⟨b, o, none⟩) 16 c) ∧ v.cell? ⟨b, o + 1, none⟩ = some (.string (nameS 1)) ∧ v.cell? ⟨w.heap.size, 0, none⟩ = some (.int .i64 d) ∧ v.cell? ⟨w.heap.size, 1, none⟩ = some (.int .i64 k) ∧ Tabs v ∧ Below w.heap.size w v) → Below w.heap.size w v := fun v h => h.2.2.2.2.2
  clear n1 ht ht1 n0 n2
  have t0 := ta_set_stop d k
  have t1 := ta_set_set d k
  go_enter Tryz.func26, Tryz.ntmps26
  go_wp2_with fail
  go_region_held3 (fun v => (v.cell? ⟨1, 0, none⟩ = some (.slice (some ⟨b, o, none⟩) 16 c) ∧ v.cell? ⟨b, o + 1, none⟩ = some (.string (nameS 1)) ∧ v.cell? ⟨w.heap.size, 0, none⟩ = some (.int .i64 d) ∧ v.cell? ⟨w.heap.size, 1, none⟩ = some (.int .i64 k) ∧ Tabs v ∧ Below w.heap.size w v)) (first | exact KD _ (by assumption) | exact KB _ _ (by assumption) (by assumption) | exact KB _ _ (by assumption) ((Below.refl _ _).alloc (Nat.le_refl _) _) | assumption) (first | (go_at_call 43; refine (letter d _ d0 d1).mono ?_; rintro e v ⟨rfl, rfl⟩) | (go_at_call 44; refine (itoa k _ k0 k1 (KT _ (by assumption))).mono ?_; rintro e v ⟨rfl, hbv⟩))
  all_goals
    have BN := KF _ (by assumption)
    clear KB KD KT KF
    go_wp2
    go_ret
    first
      | exact ⟨_, rfl, words_cells _ [nameS 1, regS d, digS k] _, by simp, BN⟩
      | (refine ⟨_, rfl, fun j x h => ?_, by simp, BN⟩
         have q := words_cells (w.alloc (.cells #[.int .i64 d, .int .i64 k] 77)) [nameS 1, regS d, digS k] 9 j x h
         have hsz : (w.alloc (.cells #[.int .i64 d, .int .i64 k] 77)).heap.size = w.heap.size + 1 := by simp
         rw [hsz] at q
         exact q)
set_option maxRecDepth 8000 in
set_option maxHeartbeats 4000000 in
theorem words_2 (d a : Int) (w : World) (d0 : 0 ≤ d) (d1 : d ≤ 3) (a0 : 0 ≤ a) (a1 : a ≤ 3) (ht : Tabs w) : Calls Tryz.prog 26 #[.iface 79 (.agg #[.int .i64 d, .int .i64 a])] w (Words4 w [nameS 2, regS d, regS a]) := by
  have ht1 := ht.below ((Below.refl _ _).alloc (Nat.le_refl _) (.cells #[.int .i64 d, .int .i64 a] 79))
  obtain ⟨b, o, c, c0, c1, n0, n1⟩ := ht1.names
  have n2 := n1 2 (by omega)
  have S0 : ((w.alloc (.cells #[.int .i64 d, .int .i64 a] 79)).cell? ⟨1, 0, none⟩ = some (.slice (some ⟨b, o, none⟩) 16 c) ∧ (w.alloc (.cells #[.int .i64 d, .int .i64 a] 79)).cell? ⟨b, o + 2, none⟩ = some (.string (nameS 2)) ∧ (w.alloc (.cells #[.int .i64 d, .int .i64 a] 79)).cell? ⟨w.heap.size, 0, none⟩ = some (.int .i64 d) ∧ (w.alloc (.cells #[.int .i64 d, .int .i64 a] 79)).cell? ⟨w.heap.size, 1, none⟩ = some (.int .i64 a) ∧ Tabs (w.alloc (.cells #[.int .i64 d, .int .i64 a] 79)) ∧ Below w.heap.size w (w.alloc (.cells #[.int .i64 d, .int .i64 a] 79))) := ⟨n0, n2, by simp, by simp, ht1, (Below.refl _ _).alloc (Nat.le_refl _) _⟩
  have KB : ∀ v v' : World, (v.cell? ⟨1, 0, none⟩ = some (.slice (some ⟨b, o, none⟩) 16 c) ∧ v.cell? ⟨b, o + 2, none⟩ = some (.string (nameS 2)) ∧ v.cell? ⟨w.heap.size, 0, none⟩ = some (.int .i64 d) ∧ v.cell? ⟨w.heap.size, 1, none⟩ = some (.int .i64 a) ∧ Tabs v ∧ Below w.heap.size w v) → Below v.heap.size v v' → (v'.cell? ⟨1, 0, none⟩ = some (.slice (some ⟨b, o, none⟩) 16 c) ∧ v'.cell? ⟨b, o + 2, none⟩ = some (.string (nameS 2)) ∧ v'.cell? ⟨w.heap.size, 0, none⟩ = some (.int .i64 d) ∧ v'.cell? ⟨w.heap.size, 1, none⟩ = some (.int .i64 a) ∧ Tabs v' ∧ Below w.heap.size w v') := fun v v' h hb => ⟨cell_below hb h.1, cell_below hb h.2.1, cell_below hb h.2.2.1, cell_below hb h.2.2.2.1, (h.2.2.2.2.1).below hb, (h.2.2.2.2.2).trans (hb.mono (h.2.2.2.2.2).size)⟩
  have KD : ∀ v : World, (v.cell? ⟨1, 0, none⟩ = some (.slice (some ⟨b, o, none⟩) 16 c) ∧ v.cell? ⟨b, o + 2, none⟩ = some (.string (nameS 2)) ∧ v.cell? ⟨w.heap.size, 0, none⟩ = some (.int .i64 d) ∧ v.cell? ⟨w.heap.size, 1, none⟩ = some (.int .i64 a) ∧ Tabs v ∧ Below w.heap.size w v) → (v.drew.cell? ⟨1, 0, none⟩ = some (.slice (some ⟨b, o, none⟩) 16 c) ∧ v.drew.cell? ⟨b, o + 2, none⟩ = some (.string (nameS 2)) ∧ v.drew.cell? ⟨w.heap.size, 0, none⟩ = some (.int .i64 d) ∧ v.drew.cell? ⟨w.heap.size, 1, none⟩ = some (.int .i64 a) ∧ Tabs v.drew ∧ Below w.heap.size w v.drew) := fun v h => ⟨h.1, h.2.1, h.2.2.1, h.2.2.2.1, (h.2.2.2.2.1).drew, (h.2.2.2.2.2).drew⟩
  have KT : ∀ v : World, (v.cell? ⟨1, 0, none⟩ = some (.slice (some ⟨b, o, none⟩) 16 c) ∧ v.cell? ⟨b, o + 2, none⟩ = some (.string (nameS 2)) ∧ v.cell? ⟨w.heap.size, 0, none⟩ = some (.int .i64 d) ∧ v.cell? ⟨w.heap.size, 1, none⟩ = some (.int .i64 a) ∧ Tabs v ∧ Below w.heap.size w v) → Tabs v := fun v h => h.2.2.2.2.1
  have KF : ∀ v : World, (v.cell? ⟨1, 0, none⟩ = some (.slice (some ⟨b, o, none⟩) 16 c) ∧ v.cell? ⟨b, o + 2, none⟩ = some (.string (nameS 2)) ∧ v.cell? ⟨w.heap.size, 0, none⟩ = some (.int .i64 d) ∧ v.cell? ⟨w.heap.size, 1, none⟩ = some (.int .i64 a) ∧ Tabs v ∧ Below w.heap.size w v) → Below w.heap.size w v := fun v h => h.2.2.2.2.2
  clear n1 ht ht1 n0 n2
  have t0 := ta_move_stop d a
  have t1 := ta_move_set d a
  have t2 := ta_move_move d a
  go_enter Tryz.func26, Tryz.ntmps26
  go_wp2_with fail
  go_region_held3 (fun v => (v.cell? ⟨1, 0, none⟩ = some (.slice (some ⟨b, o, none⟩) 16 c) ∧ v.cell? ⟨b, o + 2, none⟩ = some (.string (nameS 2)) ∧ v.cell? ⟨w.heap.size, 0, none⟩ = some (.int .i64 d) ∧ v.cell? ⟨w.heap.size, 1, none⟩ = some (.int .i64 a) ∧ Tabs v ∧ Below w.heap.size w v)) (first | exact KD _ (by assumption) | exact KB _ _ (by assumption) (by assumption) | exact KB _ _ (by assumption) ((Below.refl _ _).alloc (Nat.le_refl _) _) | assumption) (first | (go_at_call 43; refine (letter d _ d0 d1).mono ?_; rintro e v ⟨rfl, rfl⟩) | (go_at_call 43; refine (letter a _ a0 a1).mono ?_; rintro e v ⟨rfl, rfl⟩))
  all_goals
    have BN := KF _ (by assumption)
    clear KB KD KT KF
    go_wp2
    go_ret
    first
      | exact ⟨_, rfl, words_cells _ [nameS 2, regS d, regS a] _, by simp, BN⟩
      | (refine ⟨_, rfl, fun j x h => ?_, by simp, BN⟩
         have q := words_cells (w.alloc (.cells #[.int .i64 d, .int .i64 a] 79)) [nameS 2, regS d, regS a] 9 j x h
         have hsz : (w.alloc (.cells #[.int .i64 d, .int .i64 a] 79)).heap.size = w.heap.size + 1 := by simp
         rw [hsz] at q
         exact q)
set_option maxRecDepth 8000 in
set_option maxHeartbeats 4000000 in
theorem words_3 (d a k : Int) (w : World) (d0 : 0 ≤ d) (d1 : d ≤ 3) (a0 : 0 ≤ a) (a1 : a ≤ 3) (k0 : 0 ≤ k) (k1 : k ≤ 3) (ht : Tabs w) : Calls Tryz.prog 26 #[.iface 81 (.agg #[.int .i64 3, .int .i64 d, .int .i64 a, .int .i64 k])] w (Words4 w [nameS 3, regS d, regS a, regS k]) := by
  have ht1 := ht.below ((Below.refl _ _).alloc (Nat.le_refl _) (.cells #[.int .i64 3, .int .i64 d, .int .i64 a, .int .i64 k] 81))
  obtain ⟨b, o, c, c0, c1, n0, n1⟩ := ht1.names
  have n2 := n1 3 (by omega)
  have S0 : ((w.alloc (.cells #[.int .i64 3, .int .i64 d, .int .i64 a, .int .i64 k] 81)).cell? ⟨1, 0, none⟩ = some (.slice (some ⟨b, o, none⟩) 16 c) ∧ (w.alloc (.cells #[.int .i64 3, .int .i64 d, .int .i64 a, .int .i64 k] 81)).cell? ⟨b, o + 3, none⟩ = some (.string (nameS 3)) ∧ (w.alloc (.cells #[.int .i64 3, .int .i64 d, .int .i64 a, .int .i64 k] 81)).cell? ⟨w.heap.size, 0, none⟩ = some (.int .i64 3) ∧ (w.alloc (.cells #[.int .i64 3, .int .i64 d, .int .i64 a, .int .i64 k] 81)).cell? ⟨w.heap.size, 1, none⟩ = some (.int .i64 d) ∧ (w.alloc (.cells #[.int .i64 3, .int .i64 d, .int .i64 a, .int .i64 k] 81)).cell? ⟨w.heap.size, 2, none⟩ = some (.int .i64 a) ∧ (w.alloc (.cells #[.int .i64 3, .int .i64 d, .int .i64 a, .int .i64 k] 81)).cell? ⟨w.heap.size, 3, none⟩ = some (.int .i64 k) ∧ Tabs (w.alloc (.cells #[.int .i64 3, .int .i64 d, .int .i64 a, .int .i64 k] 81)) ∧ Below w.heap.size w (w.alloc (.cells #[.int .i64 3, .int .i64 d, .int .i64 a, .int .i64 k] 81))) := ⟨n0, n2, by simp, by simp, by simp, by simp, ht1, (Below.refl _ _).alloc (Nat.le_refl _) _⟩
  have KB : ∀ v v' : World, (v.cell? ⟨1, 0, none⟩ = some (.slice (some ⟨b, o, none⟩) 16 c) ∧ v.cell? ⟨b, o + 3, none⟩ = some (.string (nameS 3)) ∧ v.cell? ⟨w.heap.size, 0, none⟩ = some (.int .i64 3) ∧ v.cell? ⟨w.heap.size, 1, none⟩ = some (.int .i64 d) ∧ v.cell? ⟨w.heap.size, 2, none⟩ = some (.int .i64 a) ∧ v.cell? ⟨w.heap.size, 3, none⟩ = some (.int .i64 k) ∧ Tabs v ∧ Below w.heap.size w v) → Below v.heap.size v v' → (v'.cell? ⟨1, 0, none⟩ = some (.slice (some ⟨b, o, none⟩) 16 c) ∧ v'.cell? ⟨b, o + 3, none⟩ = some (.string (nameS 3)) ∧ v'.cell? ⟨w.heap.size, 0, none⟩ = some (.int .i64 3) ∧ v'.cell? ⟨w.heap.size, 1, none⟩ = some (.int .i64 d) ∧ v'.cell? ⟨w.heap.size, 2, none⟩ = some (.int .i64 a) ∧ v'.cell? ⟨w.heap.size, 3, none⟩ = some (.int .i64 k) ∧ Tabs v' ∧ Below w.heap.size w v') := fun v v' h hb => ⟨cell_below hb h.1, cell_below hb h.2.1, cell_below hb h.2.2.1, cell_below hb h.2.2.2.1, cell_below hb h.2.2.2.2.1, cell_below hb h.2.2.2.2.2.1, (h.2.2.2.2.2.2.1).below hb, (h.2.2.2.2.2.2.2).trans (hb.mono (h.2.2.2.2.2.2.2).size)⟩
  have KD : ∀ v : World, (v.cell? ⟨1, 0, none⟩ = some (.slice (some ⟨b, o, none⟩) 16 c) ∧ v.cell? ⟨b, o + 3, none⟩ = some (.string (nameS 3)) ∧ v.cell? ⟨w.heap.size, 0, none⟩ = some (.int .i64 3) ∧ v.cell? ⟨w.heap.size, 1, none⟩ = some (.int .i64 d) ∧ v.cell? ⟨w.heap.size, 2, none⟩ = some (.int .i64 a) ∧ v.cell? ⟨w.heap.size, 3, none⟩ = some (.int .i64 k) ∧ Tabs v ∧ Below w.heap.size w v) → (v.drew.cell? ⟨1, 0, none⟩ = some (.slice (some ⟨b, o, none⟩) 16 c) ∧ v.drew.cell? ⟨b, o + 3, none⟩ = some (.string (nameS 3)) ∧ v.drew.cell? ⟨w.heap.size, 0, none⟩ = some (.int .i64 3) ∧ v.drew.cell? ⟨w.heap.size, 1, none⟩ = some (.int .i64 d) ∧ v.drew.cell? ⟨w.heap.size, 2, none⟩ = some (.int .i64 a) ∧ v.drew.cell? ⟨w.heap.size, 3, none⟩ = some (.int .i64 k) ∧ Tabs v.drew ∧ Below w.heap.size w v.drew) := fun v h => ⟨h.1, h.2.1, h.2.2.1, h.2.2.2.1, h.2.2.2.2.1, h.2.2.2.2.2.1, (h.2.2.2.2.2.2.1).drew, (h.2.2.2.2.2.2.2).drew⟩
  have KT : ∀ v : World, (v.cell? ⟨1, 0, none⟩ = some (.slice (some ⟨b, o, none⟩) 16 c) ∧ v.cell? ⟨b, o + 3, none⟩ = some (.string (nameS 3)) ∧ v.cell? ⟨w.heap.size, 0, none⟩ = some (.int .i64 3) ∧ v.cell? ⟨w.heap.size, 1, none⟩ = some (.int .i64 d) ∧ v.cell? ⟨w.heap.size, 2, none⟩ = some (.int .i64 a) ∧ v.cell? ⟨w.heap.size, 3, none⟩ = some (.int .i64 k) ∧ Tabs v ∧ Below w.heap.size w v) → Tabs v := fun v h => h.2.2.2.2.2.2.1
  have KF : ∀ v : World, (v.cell? ⟨1, 0, none⟩ = some (.slice (some ⟨b, o, none⟩) 16 c) ∧ v.cell? ⟨b, o + 3, none⟩ = some (.string (nameS 3)) ∧ v.cell? ⟨w.heap.size, 0, none⟩ = some (.int .i64 3) ∧ v.cell? ⟨w.heap.size, 1, none⟩ = some (.int .i64 d) ∧ v.cell? ⟨w.heap.size, 2, none⟩ = some (.int .i64 a) ∧ v.cell? ⟨w.heap.size, 3, none⟩ = some (.int .i64 k) ∧ Tabs v ∧ Below w.heap.size w v) → Below w.heap.size w v := fun v h => h.2.2.2.2.2.2.2
  clear n1 ht ht1 n0 n2
  have t0 := ta_reckon_stop 3 d a k
  have t1 := ta_reckon_set 3 d a k
  have t2 := ta_reckon_move 3 d a k
  have t3 := ta_reckon_reckon 3 d a k
  go_enter Tryz.func26, Tryz.ntmps26
  go_wp2_with fail
  go_region_held3 (fun v => (v.cell? ⟨1, 0, none⟩ = some (.slice (some ⟨b, o, none⟩) 16 c) ∧ v.cell? ⟨b, o + 3, none⟩ = some (.string (nameS 3)) ∧ v.cell? ⟨w.heap.size, 0, none⟩ = some (.int .i64 3) ∧ v.cell? ⟨w.heap.size, 1, none⟩ = some (.int .i64 d) ∧ v.cell? ⟨w.heap.size, 2, none⟩ = some (.int .i64 a) ∧ v.cell? ⟨w.heap.size, 3, none⟩ = some (.int .i64 k) ∧ Tabs v ∧ Below w.heap.size w v)) (first | exact KD _ (by assumption) | exact KB _ _ (by assumption) (by assumption) | exact KB _ _ (by assumption) ((Below.refl _ _).alloc (Nat.le_refl _) _) | assumption) (first | (go_at_call 43; refine (letter d _ d0 d1).mono ?_; rintro e v ⟨rfl, rfl⟩) | (go_at_call 43; refine (letter a _ a0 a1).mono ?_; rintro e v ⟨rfl, rfl⟩) | (go_at_call 43; refine (letter k _ k0 k1).mono ?_; rintro e v ⟨rfl, rfl⟩))
  all_goals
    have BN := KF _ (by assumption)
    clear KB KD KT KF
    go_wp2
    go_ret
    first
      | exact ⟨_, rfl, words_cells _ [nameS 3, regS d, regS a, regS k] _, by simp, BN⟩
      | (refine ⟨_, rfl, fun j x h => ?_, by simp, BN⟩
         have q := words_cells (w.alloc (.cells #[.int .i64 3, .int .i64 d, .int .i64 a, .int .i64 k] 81)) [nameS 3, regS d, regS a, regS k] 9 j x h
         have hsz : (w.alloc (.cells #[.int .i64 3, .int .i64 d, .int .i64 a, .int .i64 k] 81)).heap.size = w.heap.size + 1 := by simp
         rw [hsz] at q
         exact q)
set_option maxRecDepth 8000 in
set_option maxHeartbeats 4000000 in
theorem words_4 (d a k : Int) (w : World) (d0 : 0 ≤ d) (d1 : d ≤ 3) (a0 : 0 ≤ a) (a1 : a ≤ 3) (k0 : 0 ≤ k) (k1 : k ≤ 3) (ht : Tabs w) : Calls Tryz.prog 26 #[.iface 81 (.agg #[.int .i64 4, .int .i64 d, .int .i64 a, .int .i64 k])] w (Words4 w [nameS 4, regS d, regS a, regS k]) := by
  have ht1 := ht.below ((Below.refl _ _).alloc (Nat.le_refl _) (.cells #[.int .i64 4, .int .i64 d, .int .i64 a, .int .i64 k] 81))
  obtain ⟨b, o, c, c0, c1, n0, n1⟩ := ht1.names
  have n2 := n1 4 (by omega)
  have S0 : ((w.alloc (.cells #[.int .i64 4, .int .i64 d, .int .i64 a, .int .i64 k] 81)).cell? ⟨1, 0, none⟩ = some (.slice (some ⟨b, o, none⟩) 16 c) ∧ (w.alloc (.cells #[.int .i64 4, .int .i64 d, .int .i64 a, .int .i64 k] 81)).cell? ⟨b, o + 4, none⟩ = some (.string (nameS 4)) ∧ (w.alloc (.cells #[.int .i64 4, .int .i64 d, .int .i64 a, .int .i64 k] 81)).cell? ⟨w.heap.size, 0, none⟩ = some (.int .i64 4) ∧ (w.alloc (.cells #[.int .i64 4, .int .i64 d, .int .i64 a, .int .i64 k] 81)).cell? ⟨w.heap.size, 1, none⟩ = some (.int .i64 d) ∧ (w.alloc (.cells #[.int .i64 4, .int .i64 d, .int .i64 a, .int .i64 k] 81)).cell? ⟨w.heap.size, 2, none⟩ = some (.int .i64 a) ∧ (w.alloc (.cells #[.int .i64 4, .int .i64 d, .int .i64 a, .int .i64 k] 81)).cell? ⟨w.heap.size, 3, none⟩ = some (.int .i64 k) ∧ Tabs (w.alloc (.cells #[.int .i64 4, .int .i64 d, .int .i64 a, .int .i64 k] 81)) ∧ Below w.heap.size w (w.alloc (.cells #[.int .i64 4, .int .i64 d, .int .i64 a, .int .i64 k] 81))) := ⟨n0, n2, by simp, by simp, by simp, by simp, ht1, (Below.refl _ _).alloc (Nat.le_refl _) _⟩
  have KB : ∀ v v' : World, (v.cell? ⟨1, 0, none⟩ = some (.slice (some ⟨b, o, none⟩) 16 c) ∧ v.cell? ⟨b, o + 4, none⟩ = some (.string (nameS 4)) ∧ v.cell? ⟨w.heap.size, 0, none⟩ = some (.int .i64 4) ∧ v.cell? ⟨w.heap.size, 1, none⟩ = some (.int .i64 d) ∧ v.cell? ⟨w.heap.size, 2, none⟩ = some (.int .i64 a) ∧ v.cell? ⟨w.heap.size, 3, none⟩ = some (.int .i64 k) ∧ Tabs v ∧ Below w.heap.size w v) → Below v.heap.size v v' → (v'.cell? ⟨1, 0, none⟩ = some (.slice (some ⟨b, o, none⟩) 16 c) ∧ v'.cell? ⟨b, o + 4, none⟩ = some (.string (nameS 4)) ∧ v'.cell? ⟨w.heap.size, 0, none⟩ = some (.int .i64 4) ∧ v'.cell? ⟨w.heap.size, 1, none⟩ = some (.int .i64 d) ∧ v'.cell? ⟨w.heap.size, 2, none⟩ = some (.int .i64 a) ∧ v'.cell? ⟨w.heap.size, 3, none⟩ = some (.int .i64 k) ∧ Tabs v' ∧ Below w.heap.size w v') := fun v v' h hb => ⟨cell_below hb h.1, cell_below hb h.2.1, cell_below hb h.2.2.1, cell_below hb h.2.2.2.1, cell_below hb h.2.2.2.2.1, cell_below hb h.2.2.2.2.2.1, (h.2.2.2.2.2.2.1).below hb, (h.2.2.2.2.2.2.2).trans (hb.mono (h.2.2.2.2.2.2.2).size)⟩
  have KD : ∀ v : World, (v.cell? ⟨1, 0, none⟩ = some (.slice (some ⟨b, o, none⟩) 16 c) ∧ v.cell? ⟨b, o + 4, none⟩ = some (.string (nameS 4)) ∧ v.cell? ⟨w.heap.size, 0, none⟩ = some (.int .i64 4) ∧ v.cell? ⟨w.heap.size, 1, none⟩ = some (.int .i64 d) ∧ v.cell? ⟨w.heap.size, 2, none⟩ = some (.int .i64 a) ∧ v.cell? ⟨w.heap.size, 3, none⟩ = some (.int .i64 k) ∧ Tabs v ∧ Below w.heap.size w v) → (v.drew.cell? ⟨1, 0, none⟩ = some (.slice (some ⟨b, o, none⟩) 16 c) ∧ v.drew.cell? ⟨b, o + 4, none⟩ = some (.string (nameS 4)) ∧ v.drew.cell? ⟨w.heap.size, 0, none⟩ = some (.int .i64 4) ∧ v.drew.cell? ⟨w.heap.size, 1, none⟩ = some (.int .i64 d) ∧ v.drew.cell? ⟨w.heap.size, 2, none⟩ = some (.int .i64 a) ∧ v.drew.cell? ⟨w.heap.size, 3, none⟩ = some (.int .i64 k) ∧ Tabs v.drew ∧ Below w.heap.size w v.drew) := fun v h => ⟨h.1, h.2.1, h.2.2.1, h.2.2.2.1, h.2.2.2.2.1, h.2.2.2.2.2.1, (h.2.2.2.2.2.2.1).drew, (h.2.2.2.2.2.2.2).drew⟩
  have KT : ∀ v : World, (v.cell? ⟨1, 0, none⟩ = some (.slice (some ⟨b, o, none⟩) 16 c) ∧ v.cell? ⟨b, o + 4, none⟩ = some (.string (nameS 4)) ∧ v.cell? ⟨w.heap.size, 0, none⟩ = some (.int .i64 4) ∧ v.cell? ⟨w.heap.size, 1, none⟩ = some (.int .i64 d) ∧ v.cell? ⟨w.heap.size, 2, none⟩ = some (.int .i64 a) ∧ v.cell? ⟨w.heap.size, 3, none⟩ = some (.int .i64 k) ∧ Tabs v ∧ Below w.heap.size w v) → Tabs v := fun v h => h.2.2.2.2.2.2.1
  have KF : ∀ v : World, (v.cell? ⟨1, 0, none⟩ = some (.slice (some ⟨b, o, none⟩) 16 c) ∧ v.cell? ⟨b, o + 4, none⟩ = some (.string (nameS 4)) ∧ v.cell? ⟨w.heap.size, 0, none⟩ = some (.int .i64 4) ∧ v.cell? ⟨w.heap.size, 1, none⟩ = some (.int .i64 d) ∧ v.cell? ⟨w.heap.size, 2, none⟩ = some (.int .i64 a) ∧ v.cell? ⟨w.heap.size, 3, none⟩ = some (.int .i64 k) ∧ Tabs v ∧ Below w.heap.size w v) → Below w.heap.size w v := fun v h => h.2.2.2.2.2.2.2
  clear n1 ht ht1 n0 n2
  have t0 := ta_reckon_stop 4 d a k
  have t1 := ta_reckon_set 4 d a k
  have t2 := ta_reckon_move 4 d a k
  have t3 := ta_reckon_reckon 4 d a k
  go_enter Tryz.func26, Tryz.ntmps26
  go_wp2_with fail
  go_region_held3 (fun v => (v.cell? ⟨1, 0, none⟩ = some (.slice (some ⟨b, o, none⟩) 16 c) ∧ v.cell? ⟨b, o + 4, none⟩ = some (.string (nameS 4)) ∧ v.cell? ⟨w.heap.size, 0, none⟩ = some (.int .i64 4) ∧ v.cell? ⟨w.heap.size, 1, none⟩ = some (.int .i64 d) ∧ v.cell? ⟨w.heap.size, 2, none⟩ = some (.int .i64 a) ∧ v.cell? ⟨w.heap.size, 3, none⟩ = some (.int .i64 k) ∧ Tabs v ∧ Below w.heap.size w v)) (first | exact KD _ (by assumption) | exact KB _ _ (by assumption) (by assumption) | exact KB _ _ (by assumption) ((Below.refl _ _).alloc (Nat.le_refl _) _) | assumption) (first | (go_at_call 43; refine (letter d _ d0 d1).mono ?_; rintro e v ⟨rfl, rfl⟩) | (go_at_call 43; refine (letter a _ a0 a1).mono ?_; rintro e v ⟨rfl, rfl⟩) | (go_at_call 43; refine (letter k _ k0 k1).mono ?_; rintro e v ⟨rfl, rfl⟩))
  all_goals
    have BN := KF _ (by assumption)
    clear KB KD KT KF
    go_wp2
    go_ret
    first
      | exact ⟨_, rfl, words_cells _ [nameS 4, regS d, regS a, regS k] _, by simp, BN⟩
      | (refine ⟨_, rfl, fun j x h => ?_, by simp, BN⟩
         have q := words_cells (w.alloc (.cells #[.int .i64 4, .int .i64 d, .int .i64 a, .int .i64 k] 81)) [nameS 4, regS d, regS a, regS k] 9 j x h
         have hsz : (w.alloc (.cells #[.int .i64 4, .int .i64 d, .int .i64 a, .int .i64 k] 81)).heap.size = w.heap.size + 1 := by simp
         rw [hsz] at q
         exact q)
set_option maxRecDepth 8000 in
set_option maxHeartbeats 4000000 in
theorem words_5 (d a k : Int) (w : World) (d0 : 0 ≤ d) (d1 : d ≤ 3) (a0 : 0 ≤ a) (a1 : a ≤ 3) (k0 : 0 ≤ k) (k1 : k ≤ 3) (ht : Tabs w) : Calls Tryz.prog 26 #[.iface 81 (.agg #[.int .i64 5, .int .i64 d, .int .i64 a, .int .i64 k])] w (Words4 w [nameS 5, regS d, regS a, regS k]) := by
  have ht1 := ht.below ((Below.refl _ _).alloc (Nat.le_refl _) (.cells #[.int .i64 5, .int .i64 d, .int .i64 a, .int .i64 k] 81))
  obtain ⟨b, o, c, c0, c1, n0, n1⟩ := ht1.names
  have n2 := n1 5 (by omega)
  have S0 : ((w.alloc (.cells #[.int .i64 5, .int .i64 d, .int .i64 a, .int .i64 k] 81)).cell? ⟨1, 0, none⟩ = some (.slice (some ⟨b, o, none⟩) 16 c) ∧ (w.alloc (.cells #[.int .i64 5, .int .i64 d, .int .i64 a, .int .i64 k] 81)).cell? ⟨b, o + 5, none⟩ = some (.string (nameS 5)) ∧ (w.alloc (.cells #[.int .i64 5, .int .i64 d, .int .i64 a, .int .i64 k] 81)).cell? ⟨w.heap.size, 0, none⟩ = some (.int .i64 5) ∧ (w.alloc (.cells #[.int .i64 5, .int .i64 d, .int .i64 a, .int .i64 k] 81)).cell? ⟨w.heap.size, 1, none⟩ = some (.int .i64 d) ∧ (w.alloc (.cells #[.int .i64 5, .int .i64 d, .int .i64 a, .int .i64 k] 81)).cell? ⟨w.heap.size, 2, none⟩ = some (.int .i64 a) ∧ (w.alloc (.cells #[.int .i64 5, .int .i64 d, .int .i64 a, .int .i64 k] 81)).cell? ⟨w.heap.size, 3, none⟩ = some (.int .i64 k) ∧ Tabs (w.alloc (.cells #[.int .i64 5, .int .i64 d, .int .i64 a, .int .i64 k] 81)) ∧ Below w.heap.size w (w.alloc (.cells #[.int .i64 5, .int .i64 d, .int .i64 a, .int .i64 k] 81))) := ⟨n0, n2, by simp, by simp, by simp, by simp, ht1, (Below.refl _ _).alloc (Nat.le_refl _) _⟩
  have KB : ∀ v v' : World, (v.cell? ⟨1, 0, none⟩ = some (.slice (some ⟨b, o, none⟩) 16 c) ∧ v.cell? ⟨b, o + 5, none⟩ = some (.string (nameS 5)) ∧ v.cell? ⟨w.heap.size, 0, none⟩ = some (.int .i64 5) ∧ v.cell? ⟨w.heap.size, 1, none⟩ = some (.int .i64 d) ∧ v.cell? ⟨w.heap.size, 2, none⟩ = some (.int .i64 a) ∧ v.cell? ⟨w.heap.size, 3, none⟩ = some (.int .i64 k) ∧ Tabs v ∧ Below w.heap.size w v) → Below v.heap.size v v' → (v'.cell? ⟨1, 0, none⟩ = some (.slice (some ⟨b, o, none⟩) 16 c) ∧ v'.cell? ⟨b, o + 5, none⟩ = some (.string (nameS 5)) ∧ v'.cell? ⟨w.heap.size, 0, none⟩ = some (.int .i64 5) ∧ v'.cell? ⟨w.heap.size, 1, none⟩ = some (.int .i64 d) ∧ v'.cell? ⟨w.heap.size, 2, none⟩ = some (.int .i64 a) ∧ v'.cell? ⟨w.heap.size, 3, none⟩ = some (.int .i64 k) ∧ Tabs v' ∧ Below w.heap.size w v') := fun v v' h hb => ⟨cell_below hb h.1, cell_below hb h.2.1, cell_below hb h.2.2.1, cell_below hb h.2.2.2.1, cell_below hb h.2.2.2.2.1, cell_below hb h.2.2.2.2.2.1, (h.2.2.2.2.2.2.1).below hb, (h.2.2.2.2.2.2.2).trans (hb.mono (h.2.2.2.2.2.2.2).size)⟩
  have KD : ∀ v : World, (v.cell? ⟨1, 0, none⟩ = some (.slice (some ⟨b, o, none⟩) 16 c) ∧ v.cell? ⟨b, o + 5, none⟩ = some (.string (nameS 5)) ∧ v.cell? ⟨w.heap.size, 0, none⟩ = some (.int .i64 5) ∧ v.cell? ⟨w.heap.size, 1, none⟩ = some (.int .i64 d) ∧ v.cell? ⟨w.heap.size, 2, none⟩ = some (.int .i64 a) ∧ v.cell? ⟨w.heap.size, 3, none⟩ = some (.int .i64 k) ∧ Tabs v ∧ Below w.heap.size w v) → (v.drew.cell? ⟨1, 0, none⟩ = some (.slice (some ⟨b, o, none⟩) 16 c) ∧ v.drew.cell? ⟨b, o + 5, none⟩ = some (.string (nameS 5)) ∧ v.drew.cell? ⟨w.heap.size, 0, none⟩ = some (.int .i64 5) ∧ v.drew.cell? ⟨w.heap.size, 1, none⟩ = some (.int .i64 d) ∧ v.drew.cell? ⟨w.heap.size, 2, none⟩ = some (.int .i64 a) ∧ v.drew.cell? ⟨w.heap.size, 3, none⟩ = some (.int .i64 k) ∧ Tabs v.drew ∧ Below w.heap.size w v.drew) := fun v h => ⟨h.1, h.2.1, h.2.2.1, h.2.2.2.1, h.2.2.2.2.1, h.2.2.2.2.2.1, (h.2.2.2.2.2.2.1).drew, (h.2.2.2.2.2.2.2).drew⟩
  have KT : ∀ v : World, (v.cell? ⟨1, 0, none⟩ = some (.slice (some ⟨b, o, none⟩) 16 c) ∧ v.cell? ⟨b, o + 5, none⟩ = some (.string (nameS 5)) ∧ v.cell? ⟨w.heap.size, 0, none⟩ = some (.int .i64 5) ∧ v.cell? ⟨w.heap.size, 1, none⟩ = some (.int .i64 d) ∧ v.cell? ⟨w.heap.size, 2, none⟩ = some (.int .i64 a) ∧ v.cell? ⟨w.heap.size, 3, none⟩ = some (.int .i64 k) ∧ Tabs v ∧ Below w.heap.size w v) → Tabs v := fun v h => h.2.2.2.2.2.2.1
  have KF : ∀ v : World, (v.cell? ⟨1, 0, none⟩ = some (.slice (some ⟨b, o, none⟩) 16 c) ∧ v.cell? ⟨b, o + 5, none⟩ = some (.string (nameS 5)) ∧ v.cell? ⟨w.heap.size, 0, none⟩ = some (.int .i64 5) ∧ v.cell? ⟨w.heap.size, 1, none⟩ = some (.int .i64 d) ∧ v.cell? ⟨w.heap.size, 2, none⟩ = some (.int .i64 a) ∧ v.cell? ⟨w.heap.size, 3, none⟩ = some (.int .i64 k) ∧ Tabs v ∧ Below w.heap.size w v) → Below w.heap.size w v := fun v h => h.2.2.2.2.2.2.2
  clear n1 ht ht1 n0 n2
  have t0 := ta_reckon_stop 5 d a k
  have t1 := ta_reckon_set 5 d a k
  have t2 := ta_reckon_move 5 d a k
  have t3 := ta_reckon_reckon 5 d a k
  go_enter Tryz.func26, Tryz.ntmps26
  go_wp2_with fail
  go_region_held3 (fun v => (v.cell? ⟨1, 0, none⟩ = some (.slice (some ⟨b, o, none⟩) 16 c) ∧ v.cell? ⟨b, o + 5, none⟩ = some (.string (nameS 5)) ∧ v.cell? ⟨w.heap.size, 0, none⟩ = some (.int .i64 5) ∧ v.cell? ⟨w.heap.size, 1, none⟩ = some (.int .i64 d) ∧ v.cell? ⟨w.heap.size, 2, none⟩ = some (.int .i64 a) ∧ v.cell? ⟨w.heap.size, 3, none⟩ = some (.int .i64 k) ∧ Tabs v ∧ Below w.heap.size w v)) (first | exact KD _ (by assumption) | exact KB _ _ (by assumption) (by assumption) | exact KB _ _ (by assumption) ((Below.refl _ _).alloc (Nat.le_refl _) _) | assumption) (first | (go_at_call 43; refine (letter d _ d0 d1).mono ?_; rintro e v ⟨rfl, rfl⟩) | (go_at_call 43; refine (letter a _ a0 a1).mono ?_; rintro e v ⟨rfl, rfl⟩) | (go_at_call 43; refine (letter k _ k0 k1).mono ?_; rintro e v ⟨rfl, rfl⟩))
  all_goals
    have BN := KF _ (by assumption)
    clear KB KD KT KF
    go_wp2
    go_ret
    first
      | exact ⟨_, rfl, words_cells _ [nameS 5, regS d, regS a, regS k] _, by simp, BN⟩
      | (refine ⟨_, rfl, fun j x h => ?_, by simp, BN⟩
         have q := words_cells (w.alloc (.cells #[.int .i64 5, .int .i64 d, .int .i64 a, .int .i64 k] 81)) [nameS 5, regS d, regS a, regS k] 9 j x h
         have hsz : (w.alloc (.cells #[.int .i64 5, .int .i64 d, .int .i64 a, .int .i64 k] 81)).heap.size = w.heap.size + 1 := by simp
         rw [hsz] at q
         exact q)
set_option maxRecDepth 8000 in
set_option maxHeartbeats 4000000 in
theorem words_6 (d a k : Int) (w : World) (d0 : 0 ≤ d) (d1 : d ≤ 3) (a0 : 0 ≤ a) (a1 : a ≤ 3) (k0 : 0 ≤ k) (k1 : k ≤ 3) (ht : Tabs w) : Calls Tryz.prog 26 #[.iface 81 (.agg #[.int .i64 6, .int .i64 d, .int .i64 a, .int .i64 k])] w (Words4 w [nameS 6, regS d, regS a, regS k]) := by
  have ht1 := ht.below ((Below.refl _ _).alloc (Nat.le_refl _) (.cells #[.int .i64 6, .int .i64 d, .int .i64 a, .int .i64 k] 81))
  obtain ⟨b, o, c, c0, c1, n0, n1⟩ := ht1.names
  have n2 := n1 6 (by omega)
  have S0 : ((w.alloc (.cells #[.int .i64 6, .int .i64 d, .int .i64 a, .int .i64 k] 81)).cell? ⟨1, 0, none⟩ = some (.slice (some ⟨b, o, none⟩) 16 c) ∧ (w.alloc (.cells #[.int .i64 6, .int .i64 d, .int .i64 a, .int .i64 k] 81)).cell? ⟨b, o + 6, none⟩ = some (.string (nameS 6)) ∧ (w.alloc (.cells #[.int .i64 6, .int .i64 d, .int .i64 a, .int .i64 k] 81)).cell? ⟨w.heap.size, 0, none⟩ = some (.int .i64 6) ∧ (w.alloc (.cells #[.int .i64 6, .int .i64 d, .int .i64 a, .int .i64 k] 81)).cell? ⟨w.heap.size, 1, none⟩ = some (.int .i64 d) ∧ (w.alloc (.cells #[.int .i64 6, .int .i64 d, .int .i64 a, .int .i64 k] 81)).cell? ⟨w.heap.size, 2, none⟩ = some (.int .i64 a) ∧ (w.alloc (.cells #[.int .i64 6, .int .i64 d, .int .i64 a, .int .i64 k] 81)).cell? ⟨w.heap.size, 3, none⟩ = some (.int .i64 k) ∧ Tabs (w.alloc (.cells #[.int .i64 6, .int .i64 d, .int .i64 a, .int .i64 k] 81)) ∧ Below w.heap.size w (w.alloc (.cells #[.int .i64 6, .int .i64 d, .int .i64 a, .int .i64 k] 81))) := ⟨n0, n2, by simp, by simp, by simp, by simp, ht1, (Below.refl _ _).alloc (Nat.le_refl _) _⟩
  have KB : ∀ v v' : World, (v.cell? ⟨1, 0, none⟩ = some (.slice (some ⟨b, o, none⟩) 16 c) ∧ v.cell? ⟨b, o + 6, none⟩ = some (.string (nameS 6)) ∧ v.cell? ⟨w.heap.size, 0, none⟩ = some (.int .i64 6) ∧ v.cell? ⟨w.heap.size, 1, none⟩ = some (.int .i64 d) ∧ v.cell? ⟨w.heap.size, 2, none⟩ = some (.int .i64 a) ∧ v.cell? ⟨w.heap.size, 3, none⟩ = some (.int .i64 k) ∧ Tabs v ∧ Below w.heap.size w v) → Below v.heap.size v v' → (v'.cell? ⟨1, 0, none⟩ = some (.slice (some ⟨b, o, none⟩) 16 c) ∧ v'.cell? ⟨b, o + 6, none⟩ = some (.string (nameS 6)) ∧ v'.cell? ⟨w.heap.size, 0, none⟩ = some (.int .i64 6) ∧ v'.cell? ⟨w.heap.size, 1, none⟩ = some (.int .i64 d) ∧ v'.cell? ⟨w.heap.size, 2, none⟩ = some (.int .i64 a) ∧ v'.cell? ⟨w.heap.size, 3, none⟩ = some (.int .i64 k) ∧ Tabs v' ∧ Below w.heap.size w v') := fun v v' h hb => ⟨cell_below hb h.1, cell_below hb h.2.1, cell_below hb h.2.2.1, cell_below hb h.2.2.2.1, cell_below hb h.2.2.2.2.1, cell_below hb h.2.2.2.2.2.1, (h.2.2.2.2.2.2.1).below hb, (h.2.2.2.2.2.2.2).trans (hb.mono (h.2.2.2.2.2.2.2).size)⟩
  have KD : ∀ v : World, (v.cell? ⟨1, 0, none⟩ = some (.slice (some ⟨b, o, none⟩) 16 c) ∧ v.cell? ⟨b, o + 6, none⟩ = some (.string (nameS 6)) ∧ v.cell? ⟨w.heap.size, 0, none⟩ = some (.int .i64 6) ∧ v.cell? ⟨w.heap.size, 1, none⟩ = some (.int .i64 d) ∧ v.cell? ⟨w.heap.size, 2, none⟩ = some (.int .i64 a) ∧ v.cell? ⟨w.heap.size, 3, none⟩ = some (.int .i64 k) ∧ Tabs v ∧ Below w.heap.size w v) → (v.drew.cell? ⟨1, 0, none⟩ = some (.slice (some ⟨b, o, none⟩) 16 c) ∧ v.drew.cell? ⟨b, o + 6, none⟩ = some (.string (nameS 6)) ∧ v.drew.cell? ⟨w.heap.size, 0, none⟩ = some (.int .i64 6) ∧ v.drew.cell? ⟨w.heap.size, 1, none⟩ = some (.int .i64 d) ∧ v.drew.cell? ⟨w.heap.size, 2, none⟩ = some (.int .i64 a) ∧ v.drew.cell? ⟨w.heap.size, 3, none⟩ = some (.int .i64 k) ∧ Tabs v.drew ∧ Below w.heap.size w v.drew) := fun v h => ⟨h.1, h.2.1, h.2.2.1, h.2.2.2.1, h.2.2.2.2.1, h.2.2.2.2.2.1, (h.2.2.2.2.2.2.1).drew, (h.2.2.2.2.2.2.2).drew⟩
  have KT : ∀ v : World, (v.cell? ⟨1, 0, none⟩ = some (.slice (some ⟨b, o, none⟩) 16 c) ∧ v.cell? ⟨b, o + 6, none⟩ = some (.string (nameS 6)) ∧ v.cell? ⟨w.heap.size, 0, none⟩ = some (.int .i64 6) ∧ v.cell? ⟨w.heap.size, 1, none⟩ = some (.int .i64 d) ∧ v.cell? ⟨w.heap.size, 2, none⟩ = some (.int .i64 a) ∧ v.cell? ⟨w.heap.size, 3, none⟩ = some (.int .i64 k) ∧ Tabs v ∧ Below w.heap.size w v) → Tabs v := fun v h => h.2.2.2.2.2.2.1
  have KF : ∀ v : World, (v.cell? ⟨1, 0, none⟩ = some (.slice (some ⟨b, o, none⟩) 16 c) ∧ v.cell? ⟨b, o + 6, none⟩ = some (.string (nameS 6)) ∧ v.cell? ⟨w.heap.size, 0, none⟩ = some (.int .i64 6) ∧ v.cell? ⟨w.heap.size, 1, none⟩ = some (.int .i64 d) ∧ v.cell? ⟨w.heap.size, 2, none⟩ = some (.int .i64 a) ∧ v.cell? ⟨w.heap.size, 3, none⟩ = some (.int .i64 k) ∧ Tabs v ∧ Below w.heap.size w v) → Below w.heap.size w v := fun v h => h.2.2.2.2.2.2.2
  clear n1 ht ht1 n0 n2
  have t0 := ta_reckon_stop 6 d a k
  have t1 := ta_reckon_set 6 d a k
  have t2 := ta_reckon_move 6 d a k
  have t3 := ta_reckon_reckon 6 d a k
  go_enter Tryz.func26, Tryz.ntmps26
  go_wp2_with fail
  go_region_held3 (fun v => (v.cell? ⟨1, 0, none⟩ = some (.slice (some ⟨b, o, none⟩) 16 c) ∧ v.cell? ⟨b, o + 6, none⟩ = some (.string (nameS 6)) ∧ v.cell? ⟨w.heap.size, 0, none⟩ = some (.int .i64 6) ∧ v.cell? ⟨w.heap.size, 1, none⟩ = some (.int .i64 d) ∧ v.cell? ⟨w.heap.size, 2, none⟩ = some (.int .i64 a) ∧ v.cell? ⟨w.heap.size, 3, none⟩ = some (.int .i64 k) ∧ Tabs v ∧ Below w.heap.size w v)) (first | exact KD _ (by assumption) | exact KB _ _ (by assumption) (by assumption) | exact KB _ _ (by assumption) ((Below.refl _ _).alloc (Nat.le_refl _) _) | assumption) (first | (go_at_call 43; refine (letter d _ d0 d1).mono ?_; rintro e v ⟨rfl, rfl⟩) | (go_at_call 43; refine (letter a _ a0 a1).mono ?_; rintro e v ⟨rfl, rfl⟩) | (go_at_call 43; refine (letter k _ k0 k1).mono ?_; rintro e v ⟨rfl, rfl⟩))
  all_goals
    have BN := KF _ (by assumption)
    clear KB KD KT KF
    go_wp2
    go_ret
    first
      | exact ⟨_, rfl, words_cells _ [nameS 6, regS d, regS a, regS k] _, by simp, BN⟩
      | (refine ⟨_, rfl, fun j x h => ?_, by simp, BN⟩
         have q := words_cells (w.alloc (.cells #[.int .i64 6, .int .i64 d, .int .i64 a, .int .i64 k] 81)) [nameS 6, regS d, regS a, regS k] 9 j x h
         have hsz : (w.alloc (.cells #[.int .i64 6, .int .i64 d, .int .i64 a, .int .i64 k] 81)).heap.size = w.heap.size + 1 := by simp
         rw [hsz] at q
         exact q)
set_option maxRecDepth 8000 in
set_option maxHeartbeats 4000000 in
theorem words_7 (d a k : Int) (w : World) (d0 : 0 ≤ d) (d1 : d ≤ 3) (a0 : 0 ≤ a) (a1 : a ≤ 3) (k0 : 0 ≤ k) (k1 : k ≤ 3) (ht : Tabs w) : Calls Tryz.prog 26 #[.iface 81 (.agg #[.int .i64 7, .int .i64 d, .int .i64 a, .int .i64 k])] w (Words4 w [nameS 7, regS d, regS a, regS k]) := by
  have ht1 := ht.below ((Below.refl _ _).alloc (Nat.le_refl _) (.cells #[.int .i64 7, .int .i64 d, .int .i64 a, .int .i64 k] 81))
  obtain ⟨b, o, c, c0, c1, n0, n1⟩ := ht1.names
  have n2 := n1 7 (by omega)
  have S0 : ((w.alloc (.cells #[.int .i64 7, .int .i64 d, .int .i64 a, .int .i64 k] 81)).cell? ⟨1, 0, none⟩ = some (.slice (some ⟨b, o, none⟩) 16 c) ∧ (w.alloc (.cells #[.int .i64 7, .int .i64 d, .int .i64 a, .int .i64 k] 81)).cell? ⟨b, o + 7, none⟩ = some (.string (nameS 7)) ∧ (w.alloc (.cells #[.int .i64 7, .int .i64 d, .int .i64 a, .int .i64 k] 81)).cell? ⟨w.heap.size, 0, none⟩ = some (.int .i64 7) ∧ (w.alloc (.cells #[.int .i64 7, .int .i64 d, .int .i64 a, .int .i64 k] 81)).cell? ⟨w.heap.size, 1, none⟩ = some (.int .i64 d) ∧ (w.alloc (.cells #[.int .i64 7, .int .i64 d, .int .i64 a, .int .i64 k] 81)).cell? ⟨w.heap.size, 2, none⟩ = some (.int .i64 a) ∧ (w.alloc (.cells #[.int .i64 7, .int .i64 d, .int .i64 a, .int .i64 k] 81)).cell? ⟨w.heap.size, 3, none⟩ = some (.int .i64 k) ∧ Tabs (w.alloc (.cells #[.int .i64 7, .int .i64 d, .int .i64 a, .int .i64 k] 81)) ∧ Below w.heap.size w (w.alloc (.cells #[.int .i64 7, .int .i64 d, .int .i64 a, .int .i64 k] 81))) := ⟨n0, n2, by simp, by simp, by simp, by simp, ht1, (Below.refl _ _).alloc (Nat.le_refl _) _⟩
  have KB : ∀ v v' : World, (v.cell? ⟨1, 0, none⟩ = some (.slice (some ⟨b, o, none⟩) 16 c) ∧ v.cell? ⟨b, o + 7, none⟩ = some (.string (nameS 7)) ∧ v.cell? ⟨w.heap.size, 0, none⟩ = some (.int .i64 7) ∧ v.cell? ⟨w.heap.size, 1, none⟩ = some (.int .i64 d) ∧ v.cell? ⟨w.heap.size, 2, none⟩ = some (.int .i64 a) ∧ v.cell? ⟨w.heap.size, 3, none⟩ = some (.int .i64 k) ∧ Tabs v ∧ Below w.heap.size w v) → Below v.heap.size v v' → (v'.cell? ⟨1, 0, none⟩ = some (.slice (some ⟨b, o, none⟩) 16 c) ∧ v'.cell? ⟨b, o + 7, none⟩ = some (.string (nameS 7)) ∧ v'.cell? ⟨w.heap.size, 0, none⟩ = some (.int .i64 7) ∧ v'.cell? ⟨w.heap.size, 1, none⟩ = some (.int .i64 d) ∧ v'.cell? ⟨w.heap.size, 2, none⟩ = some (.int .i64 a) ∧ v'.cell? ⟨w.heap.size, 3, none⟩ = some (.int .i64 k) ∧ Tabs v' ∧ Below w.heap.size w v') := fun v v' h hb => ⟨cell_below hb h.1, cell_below hb h.2.1, cell_below hb h.2.2.1, cell_below hb h.2.2.2.1, cell_below hb h.2.2.2.2.1, cell_below hb h.2.2.2.2.2.1, (h.2.2.2.2.2.2.1).below hb, (h.2.2.2.2.2.2.2).trans (hb.mono (h.2.2.2.2.2.2.2).size)⟩
  have KD : ∀ v : World, (v.cell? ⟨1, 0, none⟩ = some (.slice (some ⟨b, o, none⟩) 16 c) ∧ v.cell? ⟨b, o + 7, none⟩ = some (.string (nameS 7)) ∧ v.cell? ⟨w.heap.size, 0, none⟩ = some (.int .i64 7) ∧ v.cell? ⟨w.heap.size, 1, none⟩ = some (.int .i64 d) ∧ v.cell? ⟨w.heap.size, 2, none⟩ = some (.int .i64 a) ∧ v.cell? ⟨w.heap.size, 3, none⟩ = some (.int .i64 k) ∧ Tabs v ∧ Below w.heap.size w v) → (v.drew.cell? ⟨1, 0, none⟩ = some (.slice (some ⟨b, o, none⟩) 16 c) ∧ v.drew.cell? ⟨b, o + 7, none⟩ = some (.string (nameS 7)) ∧ v.drew.cell? ⟨w.heap.size, 0, none⟩ = some (.int .i64 7) ∧ v.drew.cell? ⟨w.heap.size, 1, none⟩ = some (.int .i64 d) ∧ v.drew.cell? ⟨w.heap.size, 2, none⟩ = some (.int .i64 a) ∧ v.drew.cell? ⟨w.heap.size, 3, none⟩ = some (.int .i64 k) ∧ Tabs v.drew ∧ Below w.heap.size w v.drew) := fun v h => ⟨h.1, h.2.1, h.2.2.1, h.2.2.2.1, h.2.2.2.2.1, h.2.2.2.2.2.1, (h.2.2.2.2.2.2.1).drew, (h.2.2.2.2.2.2.2).drew⟩
  have KT : ∀ v : World, (v.cell? ⟨1, 0, none⟩ = some (.slice (some ⟨b, o, none⟩) 16 c) ∧ v.cell? ⟨b, o + 7, none⟩ = some (.string (nameS 7)) ∧ v.cell? ⟨w.heap.size, 0, none⟩ = some (.int .i64 7) ∧ v.cell? ⟨w.heap.size, 1, none⟩ = some (.int .i64 d) ∧ v.cell? ⟨w.heap.size, 2, none⟩ = some (.int .i64 a) ∧ v.cell? ⟨w.heap.size, 3, none⟩ = some (.int .i64 k) ∧ Tabs v ∧ Below w.heap.size w v) → Tabs v := fun v h => h.2.2.2.2.2.2.1
  have KF : ∀ v : World, (v.cell? ⟨1, 0, none⟩ = some (.slice (some ⟨b, o, none⟩) 16 c) ∧ v.cell? ⟨b, o + 7, none⟩ = some (.string (nameS 7)) ∧ v.cell? ⟨w.heap.size, 0, none⟩ = some (.int .i64 7) ∧ v.cell? ⟨w.heap.size, 1, none⟩ = some (.int .i64 d) ∧ v.cell? ⟨w.heap.size, 2, none⟩ = some (.int .i64 a) ∧ v.cell? ⟨w.heap.size, 3, none⟩ = some (.int .i64 k) ∧ Tabs v ∧ Below w.heap.size w v) → Below w.heap.size w v := fun v h => h.2.2.2.2.2.2.2
  clear n1 ht ht1 n0 n2
  have t0 := ta_reckon_stop 7 d a k
  have t1 := ta_reckon_set 7 d a k
  have t2 := ta_reckon_move 7 d a k
  have t3 := ta_reckon_reckon 7 d a k
  go_enter Tryz.func26, Tryz.ntmps26
  go_wp2_with fail
  go_region_held3 (fun v => (v.cell? ⟨1, 0, none⟩ = some (.slice (some ⟨b, o, none⟩) 16 c) ∧ v.cell? ⟨b, o + 7, none⟩ = some (.string (nameS 7)) ∧ v.cell? ⟨w.heap.size, 0, none⟩ = some (.int .i64 7) ∧ v.cell? ⟨w.heap.size, 1, none⟩ = some (.int .i64 d) ∧ v.cell? ⟨w.heap.size, 2, none⟩ = some (.int .i64 a) ∧ v.cell? ⟨w.heap.size, 3, none⟩ = some (.int .i64 k) ∧ Tabs v ∧ Below w.heap.size w v)) (first | exact KD _ (by assumption) | exact KB _ _ (by assumption) (by assumption) | exact KB _ _ (by assumption) ((Below.refl _ _).alloc (Nat.le_refl _) _) | assumption) (first | (go_at_call 43; refine (letter d _ d0 d1).mono ?_; rintro e v ⟨rfl, rfl⟩) | (go_at_call 43; refine (letter a _ a0 a1).mono ?_; rintro e v ⟨rfl, rfl⟩) | (go_at_call 43; refine (letter k _ k0 k1).mono ?_; rintro e v ⟨rfl, rfl⟩))
  all_goals
    have BN := KF _ (by assumption)
    clear KB KD KT KF
    go_wp2
    go_ret
    first
      | exact ⟨_, rfl, words_cells _ [nameS 7, regS d, regS a, regS k] _, by simp, BN⟩
      | (refine ⟨_, rfl, fun j x h => ?_, by simp, BN⟩
         have q := words_cells (w.alloc (.cells #[.int .i64 7, .int .i64 d, .int .i64 a, .int .i64 k] 81)) [nameS 7, regS d, regS a, regS k] 9 j x h
         have hsz : (w.alloc (.cells #[.int .i64 7, .int .i64 d, .int .i64 a, .int .i64 k] 81)).heap.size = w.heap.size + 1 := by simp
         rw [hsz] at q
         exact q)
end Go.Proofs.YthpajjlhjfhdpaaGreatDoor.InsI
