/-
  The words of the forms of the kinds 8 to 15.
-/
import Derived.Test.YthpajjlhjfhdpaaGreatDoorInsX
namespace Go.Proofs.YthpajjlhjfhdpaaGreatDoor.InsI
open Go.ChangeShapes Go.WideShapes Go.ChangeAt Go.RowKit Ins
set_option maxRecDepth 8000 in
set_option maxHeartbeats 4000000 in
theorem words_8 (d a k : Int) (w : World) (d0 : 0 ≤ d) (d1 : d ≤ 3) (a0 : 0 ≤ a) (a1 : a ≤ 3) (k0 : 0 ≤ k) (k1 : k ≤ 255) (ht : Tabs w) : Calls Tryz.prog 26 #[.iface 83 (.agg #[.int .i64 d, .int .i64 a, .int .i64 k])] w (Words4 w [nameS 8, regS d, regS a, digS k]) := by
  have ht1 := ht.below ((Below.refl _ _).alloc (Nat.le_refl _) (.cells #[.int .i64 d, .int .i64 a, .int .i64 k] 83))
  obtain ⟨b, o, c, c0, c1, n0, n1⟩ := ht1.names
  have n2 := n1 8 (by omega)
  have S0 : ((w.alloc (.cells #[.int .i64 d, .int .i64 a, .int .i64 k] 83)).cell? ⟨1, 0, none⟩ = some (.slice (some ⟨b, o, none⟩) 16 c) ∧ (w.alloc (.cells #[.int .i64 d, .int .i64 a, .int .i64 k] 83)).cell? ⟨b, o + 8, none⟩ = some (.string (nameS 8)) ∧ (w.alloc (.cells #[.int .i64 d, .int .i64 a, .int .i64 k] 83)).cell? ⟨w.heap.size, 0, none⟩ = some (.int .i64 d) ∧ (w.alloc (.cells #[.int .i64 d, .int .i64 a, .int .i64 k] 83)).cell? ⟨w.heap.size, 1, none⟩ = some (.int .i64 a) ∧ (w.alloc (.cells #[.int .i64 d, .int .i64 a, .int .i64 k] 83)).cell? ⟨w.heap.size, 2, none⟩ = some (.int .i64 k) ∧ Tabs (w.alloc (.cells #[.int .i64 d, .int .i64 a, .int .i64 k] 83)) ∧ Below w.heap.size w (w.alloc (.cells #[.int .i64 d, .int .i64 a, .int .i64 k] 83))) := ⟨n0, n2, by simp, by simp, by simp, ht1, (Below.refl _ _).alloc (Nat.le_refl _) _⟩
  have KB : ∀ v v' : World, (v.cell? ⟨1, 0, none⟩ = some (.slice (some ⟨b, o, none⟩) 16 c) ∧ v.cell? ⟨b, o + 8, none⟩ = some (.string (nameS 8)) ∧ v.cell? ⟨w.heap.size, 0, none⟩ = some (.int .i64 d) ∧ v.cell? ⟨w.heap.size, 1, none⟩ = some (.int .i64 a) ∧ v.cell? ⟨w.heap.size, 2, none⟩ = some (.int .i64 k) ∧ Tabs v ∧ Below w.heap.size w v) → Below v.heap.size v v' → (v'.cell? ⟨1, 0, none⟩ = some (.slice (some ⟨b, o, none⟩) 16 c) ∧ v'.cell? ⟨b, o + 8, none⟩ = some (.string (nameS 8)) ∧ v'.cell? ⟨w.heap.size, 0, none⟩ = some (.int .i64 d) ∧ v'.cell? ⟨w.heap.size, 1, none⟩ = some (.int .i64 a) ∧ v'.cell? ⟨w.heap.size, 2, none⟩ = some (.int .i64 k) ∧ Tabs v' ∧ Below w.heap.size w v') := fun v v' h hb => ⟨cell_below hb h.1, cell_below hb h.2.1, cell_below hb h.2.2.1, cell_below hb h.2.2.2.1, cell_below hb h.2.2.2.2.1, (h.2.2.2.2.2.1).below hb, (h.2.2.2.2.2.2).trans (hb.mono (h.2.2.2.2.2.2).size)⟩
  have KD : ∀ v : World, (v.cell? ⟨1, 0, none⟩ = some (.slice (some ⟨b, o, none⟩) 16 c) ∧ v.cell? ⟨b, o + 8, none⟩ = some (.string (nameS 8)) ∧ v.cell? ⟨w.heap.size, 0, none⟩ = some (.int .i64 d) ∧ v.cell? ⟨w.heap.size, 1, none⟩ = some (.int .i64 a) ∧ v.cell? ⟨w.heap.size, 2, none⟩ = some (.int .i64 k) ∧ Tabs v ∧ Below w.heap.size w v) → (v.drew.cell? ⟨1, 0, none⟩ = some (.slice (some ⟨b, o, none⟩) 16 c) ∧ v.drew.cell? ⟨b, o + 8, none⟩ = some (.string (nameS 8)) ∧ v.drew.cell? ⟨w.heap.size, 0, none⟩ = some (.int .i64 d) ∧ v.drew.cell? ⟨w.heap.size, 1, none⟩ = some (.int .i64 a) ∧ v.drew.cell? ⟨w.heap.size, 2, none⟩ = some (.int .i64 k) ∧ Tabs v.drew ∧ Below w.heap.size w v.drew) := fun v h => ⟨h.1, h.2.1, h.2.2.1, h.2.2.2.1, h.2.2.2.2.1, (h.2.2.2.2.2.1).drew, (h.2.2.2.2.2.2).drew⟩
  have KT : ∀ v : World, (v.cell? ⟨1, 0, none⟩ = some (.slice (some ⟨b, o, none⟩) 16 c) ∧ v.cell? ⟨b, o + 8, none⟩ = some (.string (nameS 8)) ∧ v.cell? ⟨w.heap.size, 0, none⟩ = some (.int .i64 d) ∧ v.cell? ⟨w.heap.size, 1, none⟩ = some (.int .i64 a) ∧ v.cell? ⟨w.heap.size, 2, none⟩ = some (.int .i64 k) ∧ Tabs v ∧ Below w.heap.size w v) → Tabs v := fun v h => h.2.2.2.2.2.1
  have KF : ∀ v : World, (v.cell? ⟨1, 0, none⟩ = some (.slice (some ⟨b, o, none⟩) 16 c) ∧ v.cell? ⟨b, o + 8, none⟩ = some (.string (nameS 8)) ∧ v.cell? ⟨w.heap.size, 0, none⟩ = some (.int .i64 d) ∧ v.cell? ⟨w.heap.size, 1, none⟩ = some (.int .i64 a) ∧ v.cell? ⟨w.heap.size, 2, none⟩ = some (.int .i64 k) ∧ Tabs v ∧ Below w.heap.size w v) → Below w.heap.size w v := fun v h => h.2.2.2.2.2.2
  clear n1 ht ht1 n0 n2
  have t0 := ta_shift_stop d a k
  have t1 := ta_shift_set d a k
  have t2 := ta_shift_move d a k
  have t3 := ta_shift_reckon d a k
  have t4 := ta_shift_shift d a k
  go_enter Tryz.func26, Tryz.ntmps26
  go_wp2_with fail
  go_region_held3 (fun v => (v.cell? ⟨1, 0, none⟩ = some (.slice (some ⟨b, o, none⟩) 16 c) ∧ v.cell? ⟨b, o + 8, none⟩ = some (.string (nameS 8)) ∧ v.cell? ⟨w.heap.size, 0, none⟩ = some (.int .i64 d) ∧ v.cell? ⟨w.heap.size, 1, none⟩ = some (.int .i64 a) ∧ v.cell? ⟨w.heap.size, 2, none⟩ = some (.int .i64 k) ∧ Tabs v ∧ Below w.heap.size w v)) (first | exact KD _ (by assumption) | exact KB _ _ (by assumption) (by assumption) | exact KB _ _ (by assumption) ((Below.refl _ _).alloc (Nat.le_refl _) _) | assumption) (first | (go_at_call 43; refine (letter d _ d0 d1).mono ?_; rintro e v ⟨rfl, rfl⟩) | (go_at_call 43; refine (letter a _ a0 a1).mono ?_; rintro e v ⟨rfl, rfl⟩) | (go_at_call 44; refine (itoa k _ k0 k1 (KT _ (by assumption))).mono ?_; rintro e v ⟨rfl, hbv⟩))
  all_goals
    have BN := KF _ (by assumption)
    clear KB KD KT KF
    go_wp2
    go_ret
    first
      | exact ⟨_, rfl, words_cells _ [nameS 8, regS d, regS a, digS k] _, by simp, BN⟩
      | (refine ⟨_, rfl, fun j x h => ?_, by simp, BN⟩
         have q := words_cells (w.alloc (.cells #[.int .i64 d, .int .i64 a, .int .i64 k] 83)) [nameS 8, regS d, regS a, digS k] 9 j x h
         have hsz : (w.alloc (.cells #[.int .i64 d, .int .i64 a, .int .i64 k] 83)).heap.size = w.heap.size + 1 := by simp
         rw [hsz] at q
         exact q)
set_option maxRecDepth 8000 in
set_option maxHeartbeats 4000000 in
theorem words_9 (d a k : Int) (w : World) (d0 : 0 ≤ d) (d1 : d ≤ 3) (a0 : 0 ≤ a) (a1 : a ≤ 3) (k0 : 0 ≤ k) (k1 : k ≤ 255) (ht : Tabs w) : Calls Tryz.prog 26 #[.iface 85 (.agg #[.int .i64 9, .int .i64 d, .int .i64 a, .int .i64 k])] w (Words4 w [nameS 9, regS d, regS a, digS k]) := by
  have ht1 := ht.below ((Below.refl _ _).alloc (Nat.le_refl _) (.cells #[.int .i64 9, .int .i64 d, .int .i64 a, .int .i64 k] 85))
  obtain ⟨b, o, c, c0, c1, n0, n1⟩ := ht1.names
  have n2 := n1 9 (by omega)
  have S0 : ((w.alloc (.cells #[.int .i64 9, .int .i64 d, .int .i64 a, .int .i64 k] 85)).cell? ⟨1, 0, none⟩ = some (.slice (some ⟨b, o, none⟩) 16 c) ∧ (w.alloc (.cells #[.int .i64 9, .int .i64 d, .int .i64 a, .int .i64 k] 85)).cell? ⟨b, o + 9, none⟩ = some (.string (nameS 9)) ∧ (w.alloc (.cells #[.int .i64 9, .int .i64 d, .int .i64 a, .int .i64 k] 85)).cell? ⟨w.heap.size, 0, none⟩ = some (.int .i64 9) ∧ (w.alloc (.cells #[.int .i64 9, .int .i64 d, .int .i64 a, .int .i64 k] 85)).cell? ⟨w.heap.size, 1, none⟩ = some (.int .i64 d) ∧ (w.alloc (.cells #[.int .i64 9, .int .i64 d, .int .i64 a, .int .i64 k] 85)).cell? ⟨w.heap.size, 2, none⟩ = some (.int .i64 a) ∧ (w.alloc (.cells #[.int .i64 9, .int .i64 d, .int .i64 a, .int .i64 k] 85)).cell? ⟨w.heap.size, 3, none⟩ = some (.int .i64 k) ∧ Tabs (w.alloc (.cells #[.int .i64 9, .int .i64 d, .int .i64 a, .int .i64 k] 85)) ∧ Below w.heap.size w (w.alloc (.cells #[.int .i64 9, .int .i64 d, .int .i64 a, .int .i64 k] 85))) := ⟨n0, n2, by simp, by simp, by simp, by simp, ht1, (Below.refl _ _).alloc (Nat.le_refl _) _⟩
  have KB : ∀ v v' : World, (v.cell? ⟨1, 0, none⟩ = some (.slice (some ⟨b, o, none⟩) 16 c) ∧ v.cell? ⟨b, o + 9, none⟩ = some (.string (nameS 9)) ∧ v.cell? ⟨w.heap.size, 0, none⟩ = some (.int .i64 9) ∧ v.cell? ⟨w.heap.size, 1, none⟩ = some (.int .i64 d) ∧ v.cell? ⟨w.heap.size, 2, none⟩ = some (.int .i64 a) ∧ v.cell? ⟨w.heap.size, 3, none⟩ = some (.int .i64 k) ∧ Tabs v ∧ Below w.heap.size w v) → Below v.heap.size v v' → (v'.cell? ⟨1, 0, none⟩ = some (.slice (some ⟨b, o, none⟩) 16 c) ∧ v'.cell? ⟨b, o + 9, none⟩ = some (.string (nameS 9)) ∧ v'.cell? ⟨w.heap.size, 0, none⟩ = some (.int .i64 9) ∧ v'.cell? ⟨w.heap.size, 1, none⟩ = some (.int .i64 d) ∧ v'.cell? ⟨w.heap.size, 2, none⟩ = some (.int .i64 a) ∧ v'.cell? ⟨w.heap.size, 3, none⟩ = some (.int .i64 k) ∧ Tabs v' ∧ Below w.heap.size w v') := fun v v' h hb => ⟨cell_below hb h.1, cell_below hb h.2.1, cell_below hb h.2.2.1, cell_below hb h.2.2.2.1, cell_below hb h.2.2.2.2.1, cell_below hb h.2.2.2.2.2.1, (h.2.2.2.2.2.2.1).below hb, (h.2.2.2.2.2.2.2).trans (hb.mono (h.2.2.2.2.2.2.2).size)⟩
  have KD : ∀ v : World, (v.cell? ⟨1, 0, none⟩ = some (.slice (some ⟨b, o, none⟩) 16 c) ∧ v.cell? ⟨b, o + 9, none⟩ = some (.string (nameS 9)) ∧ v.cell? ⟨w.heap.size, 0, none⟩ = some (.int .i64 9) ∧ v.cell? ⟨w.heap.size, 1, none⟩ = some (.int .i64 d) ∧ v.cell? ⟨w.heap.size, 2, none⟩ = some (.int .i64 a) ∧ v.cell? ⟨w.heap.size, 3, none⟩ = some (.int .i64 k) ∧ Tabs v ∧ Below w.heap.size w v) → (v.drew.cell? ⟨1, 0, none⟩ = some (.slice (some ⟨b, o, none⟩) 16 c) ∧ v.drew.cell? ⟨b, o + 9, none⟩ = some (.string (nameS 9)) ∧ v.drew.cell? ⟨w.heap.size, 0, none⟩ = some (.int .i64 9) ∧ v.drew.cell? ⟨w.heap.size, 1, none⟩ = some (.int .i64 d) ∧ v.drew.cell? ⟨w.heap.size, 2, none⟩ = some (.int .i64 a) ∧ v.drew.cell? ⟨w.heap.size, 3, none⟩ = some (.int .i64 k) ∧ Tabs v.drew ∧ Below w.heap.size w v.drew) := fun v h => ⟨h.1, h.2.1, h.2.2.1, h.2.2.2.1, h.2.2.2.2.1, h.2.2.2.2.2.1, (h.2.2.2.2.2.2.1).drew, (h.2.2.2.2.2.2.2).drew⟩
  have KT : ∀ v : World, (v.cell? ⟨1, 0, none⟩ = some (.slice (some ⟨b, o, none⟩) 16 c) ∧ v.cell? ⟨b, o + 9, none⟩ = some (.string (nameS 9)) ∧ v.cell? ⟨w.heap.size, 0, none⟩ = some (.int .i64 9) ∧ v.cell? ⟨w.heap.size, 1, none⟩ = some (.int .i64 d) ∧ v.cell? ⟨w.heap.size, 2, none⟩ = some (.int .i64 a) ∧ v.cell? ⟨w.heap.size, 3, none⟩ = some (.int .i64 k) ∧ Tabs v ∧ Below w.heap.size w v) → Tabs v := fun v h => h.2.2.2.2.2.2.1
  have KF : ∀ v : World, (v.cell? ⟨1, 0, none⟩ = some (.slice (some ⟨b, o, none⟩) 16 c) ∧ v.cell? ⟨b, o + 9, none⟩ = some (.string (nameS 9)) ∧ v.cell? ⟨w.heap.size, 0, none⟩ = some (.int .i64 9) ∧ v.cell? ⟨w.heap.size, 1, none⟩ = some (.int .i64 d) ∧ v.cell? ⟨w.heap.size, 2, none⟩ = some (.int .i64 a) ∧ v.cell? ⟨w.heap.size, 3, none⟩ = some (.int .i64 k) ∧ Tabs v ∧ Below w.heap.size w v) → Below w.heap.size w v := fun v h => h.2.2.2.2.2.2.2
  clear n1 ht ht1 n0 n2
  have t0 := ta_reach_stop 9 d a k
  have t1 := ta_reach_set 9 d a k
  have t2 := ta_reach_move 9 d a k
  have t3 := ta_reach_reckon 9 d a k
  have t4 := ta_reach_shift 9 d a k
  have t5 := ta_reach_reach 9 d a k
  go_enter Tryz.func26, Tryz.ntmps26
  go_wp2_with fail
  go_region_held3 (fun v => (v.cell? ⟨1, 0, none⟩ = some (.slice (some ⟨b, o, none⟩) 16 c) ∧ v.cell? ⟨b, o + 9, none⟩ = some (.string (nameS 9)) ∧ v.cell? ⟨w.heap.size, 0, none⟩ = some (.int .i64 9) ∧ v.cell? ⟨w.heap.size, 1, none⟩ = some (.int .i64 d) ∧ v.cell? ⟨w.heap.size, 2, none⟩ = some (.int .i64 a) ∧ v.cell? ⟨w.heap.size, 3, none⟩ = some (.int .i64 k) ∧ Tabs v ∧ Below w.heap.size w v)) (first | exact KD _ (by assumption) | exact KB _ _ (by assumption) (by assumption) | exact KB _ _ (by assumption) ((Below.refl _ _).alloc (Nat.le_refl _) _) | assumption) (first | (go_at_call 43; refine (letter d _ d0 d1).mono ?_; rintro e v ⟨rfl, rfl⟩) | (go_at_call 43; refine (letter a _ a0 a1).mono ?_; rintro e v ⟨rfl, rfl⟩) | (go_at_call 44; refine (itoa k _ k0 k1 (KT _ (by assumption))).mono ?_; rintro e v ⟨rfl, hbv⟩))
  all_goals
    have BN := KF _ (by assumption)
    clear KB KD KT KF
    go_wp2
    go_ret
    first
      | exact ⟨_, rfl, words_cells _ [nameS 9, regS d, regS a, digS k] _, by simp, BN⟩
      | (refine ⟨_, rfl, fun j x h => ?_, by simp, BN⟩
         have q := words_cells (w.alloc (.cells #[.int .i64 9, .int .i64 d, .int .i64 a, .int .i64 k] 85)) [nameS 9, regS d, regS a, digS k] 9 j x h
         have hsz : (w.alloc (.cells #[.int .i64 9, .int .i64 d, .int .i64 a, .int .i64 k] 85)).heap.size = w.heap.size + 1 := by simp
         rw [hsz] at q
         exact q)
set_option maxRecDepth 8000 in
set_option maxHeartbeats 4000000 in
theorem words_10 (d a k : Int) (w : World) (d0 : 0 ≤ d) (d1 : d ≤ 3) (a0 : 0 ≤ a) (a1 : a ≤ 3) (k0 : 0 ≤ k) (k1 : k ≤ 255) (ht : Tabs w) : Calls Tryz.prog 26 #[.iface 85 (.agg #[.int .i64 10, .int .i64 d, .int .i64 a, .int .i64 k])] w (Words4 w [nameS 10, regS d, regS a, digS k]) := by
  have ht1 := ht.below ((Below.refl _ _).alloc (Nat.le_refl _) (.cells #[.int .i64 10, .int .i64 d, .int .i64 a, .int .i64 k] 85))
  obtain ⟨b, o, c, c0, c1, n0, n1⟩ := ht1.names
  have n2 := n1 10 (by omega)
  have S0 : ((w.alloc (.cells #[.int .i64 10, .int .i64 d, .int .i64 a, .int .i64 k] 85)).cell? ⟨1, 0, none⟩ = some (.slice (some ⟨b, o, none⟩) 16 c) ∧ (w.alloc (.cells #[.int .i64 10, .int .i64 d, .int .i64 a, .int .i64 k] 85)).cell? ⟨b, o + 10, none⟩ = some (.string (nameS 10)) ∧ (w.alloc (.cells #[.int .i64 10, .int .i64 d, .int .i64 a, .int .i64 k] 85)).cell? ⟨w.heap.size, 0, none⟩ = some (.int .i64 10) ∧ (w.alloc (.cells #[.int .i64 10, .int .i64 d, .int .i64 a, .int .i64 k] 85)).cell? ⟨w.heap.size, 1, none⟩ = some (.int .i64 d) ∧ (w.alloc (.cells #[.int .i64 10, .int .i64 d, .int .i64 a, .int .i64 k] 85)).cell? ⟨w.heap.size, 2, none⟩ = some (.int .i64 a) ∧ (w.alloc (.cells #[.int .i64 10, .int .i64 d, .int .i64 a, .int .i64 k] 85)).cell? ⟨w.heap.size, 3, none⟩ = some (.int .i64 k) ∧ Tabs (w.alloc (.cells #[.int .i64 10, .int .i64 d, .int .i64 a, .int .i64 k] 85)) ∧ Below w.heap.size w (w.alloc (.cells #[.int .i64 10, .int .i64 d, .int .i64 a, .int .i64 k] 85))) := ⟨n0, n2, by simp, by simp, by simp, by simp, ht1, (Below.refl _ _).alloc (Nat.le_refl _) _⟩
  have KB : ∀ v v' : World, (v.cell? ⟨1, 0, none⟩ = some (.slice (some ⟨b, o, none⟩) 16 c) ∧ v.cell? ⟨b, o + 10, none⟩ = some (.string (nameS 10)) ∧ v.cell? ⟨w.heap.size, 0, none⟩ = some (.int .i64 10) ∧ v.cell? ⟨w.heap.size, 1, none⟩ = some (.int .i64 d) ∧ v.cell? ⟨w.heap.size, 2, none⟩ = some (.int .i64 a) ∧ v.cell? ⟨w.heap.size, 3, none⟩ = some (.int .i64 k) ∧ Tabs v ∧ Below w.heap.size w v) → Below v.heap.size v v' → (v'.cell? ⟨1, 0, none⟩ = some (.slice (some ⟨b, o, none⟩) 16 c) ∧ v'.cell? ⟨b, o + 10, none⟩ = some (.string (nameS 10)) ∧ v'.cell? ⟨w.heap.size, 0, none⟩ = some (.int .i64 10) ∧ v'.cell? ⟨w.heap.size, 1, none⟩ = some (.int .i64 d) ∧ v'.cell? ⟨w.heap.size, 2, none⟩ = some (.int .i64 a) ∧ v'.cell? ⟨w.heap.size, 3, none⟩ = some (.int .i64 k) ∧ Tabs v' ∧ Below w.heap.size w v') := fun v v' h hb => ⟨cell_below hb h.1, cell_below hb h.2.1, cell_below hb h.2.2.1, cell_below hb h.2.2.2.1, cell_below hb h.2.2.2.2.1, cell_below hb h.2.2.2.2.2.1, (h.2.2.2.2.2.2.1).below hb, (h.2.2.2.2.2.2.2).trans (hb.mono (h.2.2.2.2.2.2.2).size)⟩
  have KD : ∀ v : World, (v.cell? ⟨1, 0, none⟩ = some (.slice (some ⟨b, o, none⟩) 16 c) ∧ v.cell? ⟨b, o + 10, none⟩ = some (.string (nameS 10)) ∧ v.cell? ⟨w.heap.size, 0, none⟩ = some (.int .i64 10) ∧ v.cell? ⟨w.heap.size, 1, none⟩ = some (.int .i64 d) ∧ v.cell? ⟨w.heap.size, 2, none⟩ = some (.int .i64 a) ∧ v.cell? ⟨w.heap.size, 3, none⟩ = some (.int .i64 k) ∧ Tabs v ∧ Below w.heap.size w v) → (v.drew.cell? ⟨1, 0, none⟩ = some (.slice (some ⟨b, o, none⟩) 16 c) ∧ v.drew.cell? ⟨b, o + 10, none⟩ = some (.string (nameS 10)) ∧ v.drew.cell? ⟨w.heap.size, 0, none⟩ = some (.int .i64 10) ∧ v.drew.cell? ⟨w.heap.size, 1, none⟩ = some (.int .i64 d) ∧ v.drew.cell? ⟨w.heap.size, 2, none⟩ = some (.int .i64 a) ∧ v.drew.cell? ⟨w.heap.size, 3, none⟩ = some (.int .i64 k) ∧ Tabs v.drew ∧ Below w.heap.size w v.drew) := fun v h => ⟨h.1, h.2.1, h.2.2.1, h.2.2.2.1, h.2.2.2.2.1, h.2.2.2.2.2.1, (h.2.2.2.2.2.2.1).drew, (h.2.2.2.2.2.2.2).drew⟩
  have KT : ∀ v : World, (v.cell? ⟨1, 0, none⟩ = some (.slice (some ⟨b, o, none⟩) 16 c) ∧ v.cell? ⟨b, o + 10, none⟩ = some (.string (nameS 10)) ∧ v.cell? ⟨w.heap.size, 0, none⟩ = some (.int .i64 10) ∧ v.cell? ⟨w.heap.size, 1, none⟩ = some (.int .i64 d) ∧ v.cell? ⟨w.heap.size, 2, none⟩ = some (.int .i64 a) ∧ v.cell? ⟨w.heap.size, 3, none⟩ = some (.int .i64 k) ∧ Tabs v ∧ Below w.heap.size w v) → Tabs v := fun v h => h.2.2.2.2.2.2.1
  have KF : ∀ v : World, (v.cell? ⟨1, 0, none⟩ = some (.slice (some ⟨b, o, none⟩) 16 c) ∧ v.cell? ⟨b, o + 10, none⟩ = some (.string (nameS 10)) ∧ v.cell? ⟨w.heap.size, 0, none⟩ = some (.int .i64 10) ∧ v.cell? ⟨w.heap.size, 1, none⟩ = some (.int .i64 d) ∧ v.cell? ⟨w.heap.size, 2, none⟩ = some (.int .i64 a) ∧ v.cell? ⟨w.heap.size, 3, none⟩ = some (.int .i64 k) ∧ Tabs v ∧ Below w.heap.size w v) → Below w.heap.size w v := fun v h => h.2.2.2.2.2.2.2
  clear n1 ht ht1 n0 n2
  have t0 := ta_reach_stop 10 d a k
  have t1 := ta_reach_set 10 d a k
  have t2 := ta_reach_move 10 d a k
  have t3 := ta_reach_reckon 10 d a k
  have t4 := ta_reach_shift 10 d a k
  have t5 := ta_reach_reach 10 d a k
  go_enter Tryz.func26, Tryz.ntmps26
  go_wp2_with fail
  go_region_held3 (fun v => (v.cell? ⟨1, 0, none⟩ = some (.slice (some ⟨b, o, none⟩) 16 c) ∧ v.cell? ⟨b, o + 10, none⟩ = some (.string (nameS 10)) ∧ v.cell? ⟨w.heap.size, 0, none⟩ = some (.int .i64 10) ∧ v.cell? ⟨w.heap.size, 1, none⟩ = some (.int .i64 d) ∧ v.cell? ⟨w.heap.size, 2, none⟩ = some (.int .i64 a) ∧ v.cell? ⟨w.heap.size, 3, none⟩ = some (.int .i64 k) ∧ Tabs v ∧ Below w.heap.size w v)) (first | exact KD _ (by assumption) | exact KB _ _ (by assumption) (by assumption) | exact KB _ _ (by assumption) ((Below.refl _ _).alloc (Nat.le_refl _) _) | assumption) (first | (go_at_call 43; refine (letter d _ d0 d1).mono ?_; rintro e v ⟨rfl, rfl⟩) | (go_at_call 43; refine (letter a _ a0 a1).mono ?_; rintro e v ⟨rfl, rfl⟩) | (go_at_call 44; refine (itoa k _ k0 k1 (KT _ (by assumption))).mono ?_; rintro e v ⟨rfl, hbv⟩))
  all_goals
    have BN := KF _ (by assumption)
    clear KB KD KT KF
    go_wp2
    go_ret
    first
      | exact ⟨_, rfl, words_cells _ [nameS 10, regS d, regS a, digS k] _, by simp, BN⟩
      | (refine ⟨_, rfl, fun j x h => ?_, by simp, BN⟩
         have q := words_cells (w.alloc (.cells #[.int .i64 10, .int .i64 d, .int .i64 a, .int .i64 k] 85)) [nameS 10, regS d, regS a, digS k] 9 j x h
         have hsz : (w.alloc (.cells #[.int .i64 10, .int .i64 d, .int .i64 a, .int .i64 k] 85)).heap.size = w.heap.size + 1 := by simp
         rw [hsz] at q
         exact q)
set_option maxRecDepth 8000 in
set_option maxHeartbeats 4000000 in
theorem words_11 (d a k : Int) (w : World) (d0 : 0 ≤ d) (d1 : d ≤ 3) (a0 : 0 ≤ a) (a1 : a ≤ 3) (k0 : 0 ≤ k) (k1 : k ≤ 255) (ht : Tabs w) : Calls Tryz.prog 26 #[.iface 86 (.agg #[.int .i64 11, .int .i64 d, .int .i64 a, .int .i64 k])] w (Words4 w [nameS 11, regS d, regS a, digS k]) := by
  have ht1 := ht.below ((Below.refl _ _).alloc (Nat.le_refl _) (.cells #[.int .i64 11, .int .i64 d, .int .i64 a, .int .i64 k] 86))
  obtain ⟨b, o, c, c0, c1, n0, n1⟩ := ht1.names
  have n2 := n1 11 (by omega)
  have S0 : ((w.alloc (.cells #[.int .i64 11, .int .i64 d, .int .i64 a, .int .i64 k] 86)).cell? ⟨1, 0, none⟩ = some (.slice (some ⟨b, o, none⟩) 16 c) ∧ (w.alloc (.cells #[.int .i64 11, .int .i64 d, .int .i64 a, .int .i64 k] 86)).cell? ⟨b, o + 11, none⟩ = some (.string (nameS 11)) ∧ (w.alloc (.cells #[.int .i64 11, .int .i64 d, .int .i64 a, .int .i64 k] 86)).cell? ⟨w.heap.size, 0, none⟩ = some (.int .i64 11) ∧ (w.alloc (.cells #[.int .i64 11, .int .i64 d, .int .i64 a, .int .i64 k] 86)).cell? ⟨w.heap.size, 1, none⟩ = some (.int .i64 d) ∧ (w.alloc (.cells #[.int .i64 11, .int .i64 d, .int .i64 a, .int .i64 k] 86)).cell? ⟨w.heap.size, 2, none⟩ = some (.int .i64 a) ∧ (w.alloc (.cells #[.int .i64 11, .int .i64 d, .int .i64 a, .int .i64 k] 86)).cell? ⟨w.heap.size, 3, none⟩ = some (.int .i64 k) ∧ Tabs (w.alloc (.cells #[.int .i64 11, .int .i64 d, .int .i64 a, .int .i64 k] 86)) ∧ Below w.heap.size w (w.alloc (.cells #[.int .i64 11, .int .i64 d, .int .i64 a, .int .i64 k] 86))) := ⟨n0, n2, by simp, by simp, by simp, by simp, ht1, (Below.refl _ _).alloc (Nat.le_refl _) _⟩
  have KB : ∀ v v' : World, (v.cell? ⟨1, 0, none⟩ = some (.slice (some ⟨b, o, none⟩) 16 c) ∧ v.cell? ⟨b, o + 11, none⟩ = some (.string (nameS 11)) ∧ v.cell? ⟨w.heap.size, 0, none⟩ = some (.int .i64 11) ∧ v.cell? ⟨w.heap.size, 1, none⟩ = some (.int .i64 d) ∧ v.cell? ⟨w.heap.size, 2, none⟩ = some (.int .i64 a) ∧ v.cell? ⟨w.heap.size, 3, none⟩ = some (.int .i64 k) ∧ Tabs v ∧ Below w.heap.size w v) → Below v.heap.size v v' → (v'.cell? ⟨1, 0, none⟩ = some (.slice (some ⟨b, o, none⟩) 16 c) ∧ v'.cell? ⟨b, o + 11, none⟩ = some (.string (nameS 11)) ∧ v'.cell? ⟨w.heap.size, 0, none⟩ = some (.int .i64 11) ∧ v'.cell? ⟨w.heap.size, 1, none⟩ = some (.int .i64 d) ∧ v'.cell? ⟨w.heap.size, 2, none⟩ = some (.int .i64 a) ∧ v'.cell? ⟨w.heap.size, 3, none⟩ = some (.int .i64 k) ∧ Tabs v' ∧ Below w.heap.size w v') := fun v v' h hb => ⟨cell_below hb h.1, cell_below hb h.2.1, cell_below hb h.2.2.1, cell_below hb h.2.2.2.1, cell_below hb h.2.2.2.2.1, cell_below hb h.2.2.2.2.2.1, (h.2.2.2.2.2.2.1).below hb, (h.2.2.2.2.2.2.2).trans (hb.mono (h.2.2.2.2.2.2.2).size)⟩
  have KD : ∀ v : World, (v.cell? ⟨1, 0, none⟩ = some (.slice (some ⟨b, o, none⟩) 16 c) ∧ v.cell? ⟨b, o + 11, none⟩ = some (.string (nameS 11)) ∧ v.cell? ⟨w.heap.size, 0, none⟩ = some (.int .i64 11) ∧ v.cell? ⟨w.heap.size, 1, none⟩ = some (.int .i64 d) ∧ v.cell? ⟨w.heap.size, 2, none⟩ = some (.int .i64 a) ∧ v.cell? ⟨w.heap.size, 3, none⟩ = some (.int .i64 k) ∧ Tabs v ∧ Below w.heap.size w v) → (v.drew.cell? ⟨1, 0, none⟩ = some (.slice (some ⟨b, o, none⟩) 16 c) ∧ v.drew.cell? ⟨b, o + 11, none⟩ = some (.string (nameS 11)) ∧ v.drew.cell? ⟨w.heap.size, 0, none⟩ = some (.int .i64 11) ∧ v.drew.cell? ⟨w.heap.size, 1, none⟩ = some (.int .i64 d) ∧ v.drew.cell? ⟨w.heap.size, 2, none⟩ = some (.int .i64 a) ∧ v.drew.cell? ⟨w.heap.size, 3, none⟩ = some (.int .i64 k) ∧ Tabs v.drew ∧ Below w.heap.size w v.drew) := fun v h => ⟨h.1, h.2.1, h.2.2.1, h.2.2.2.1, h.2.2.2.2.1, h.2.2.2.2.2.1, (h.2.2.2.2.2.2.1).drew, (h.2.2.2.2.2.2.2).drew⟩
  have KT : ∀ v : World, (v.cell? ⟨1, 0, none⟩ = some (.slice (some ⟨b, o, none⟩) 16 c) ∧ v.cell? ⟨b, o + 11, none⟩ = some (.string (nameS 11)) ∧ v.cell? ⟨w.heap.size, 0, none⟩ = some (.int .i64 11) ∧ v.cell? ⟨w.heap.size, 1, none⟩ = some (.int .i64 d) ∧ v.cell? ⟨w.heap.size, 2, none⟩ = some (.int .i64 a) ∧ v.cell? ⟨w.heap.size, 3, none⟩ = some (.int .i64 k) ∧ Tabs v ∧ Below w.heap.size w v) → Tabs v := fun v h => h.2.2.2.2.2.2.1
  have KF : ∀ v : World, (v.cell? ⟨1, 0, none⟩ = some (.slice (some ⟨b, o, none⟩) 16 c) ∧ v.cell? ⟨b, o + 11, none⟩ = some (.string (nameS 11)) ∧ v.cell? ⟨w.heap.size, 0, none⟩ = some (.int .i64 11) ∧ v.cell? ⟨w.heap.size, 1, none⟩ = some (.int .i64 d) ∧ v.cell? ⟨w.heap.size, 2, none⟩ = some (.int .i64 a) ∧ v.cell? ⟨w.heap.size, 3, none⟩ = some (.int .i64 k) ∧ Tabs v ∧ Below w.heap.size w v) → Below w.heap.size w v := fun v h => h.2.2.2.2.2.2.2
  clear n1 ht ht1 n0 n2
  have t0 := ta_ask_stop 11 d a k
  have t1 := ta_ask_set 11 d a k
  have t2 := ta_ask_move 11 d a k
  have t3 := ta_ask_reckon 11 d a k
  have t4 := ta_ask_shift 11 d a k
  have t5 := ta_ask_reach 11 d a k
  have t6 := ta_ask_ask 11 d a k
  go_enter Tryz.func26, Tryz.ntmps26
  go_wp2_with fail
  go_region_held3 (fun v => (v.cell? ⟨1, 0, none⟩ = some (.slice (some ⟨b, o, none⟩) 16 c) ∧ v.cell? ⟨b, o + 11, none⟩ = some (.string (nameS 11)) ∧ v.cell? ⟨w.heap.size, 0, none⟩ = some (.int .i64 11) ∧ v.cell? ⟨w.heap.size, 1, none⟩ = some (.int .i64 d) ∧ v.cell? ⟨w.heap.size, 2, none⟩ = some (.int .i64 a) ∧ v.cell? ⟨w.heap.size, 3, none⟩ = some (.int .i64 k) ∧ Tabs v ∧ Below w.heap.size w v)) (first | exact KD _ (by assumption) | exact KB _ _ (by assumption) (by assumption) | exact KB _ _ (by assumption) ((Below.refl _ _).alloc (Nat.le_refl _) _) | assumption) (first | (go_at_call 43; refine (letter d _ d0 d1).mono ?_; rintro e v ⟨rfl, rfl⟩) | (go_at_call 43; refine (letter a _ a0 a1).mono ?_; rintro e v ⟨rfl, rfl⟩) | (go_at_call 44; refine (itoa k _ k0 k1 (KT _ (by assumption))).mono ?_; rintro e v ⟨rfl, hbv⟩))
  all_goals
    have BN := KF _ (by assumption)
    clear KB KD KT KF
    go_wp2
    go_ret
    first
      | exact ⟨_, rfl, words_cells _ [nameS 11, regS d, regS a, digS k] _, by simp, BN⟩
      | (refine ⟨_, rfl, fun j x h => ?_, by simp, BN⟩
         have q := words_cells (w.alloc (.cells #[.int .i64 11, .int .i64 d, .int .i64 a, .int .i64 k] 86)) [nameS 11, regS d, regS a, digS k] 9 j x h
         have hsz : (w.alloc (.cells #[.int .i64 11, .int .i64 d, .int .i64 a, .int .i64 k] 86)).heap.size = w.heap.size + 1 := by simp
         rw [hsz] at q
         exact q)
set_option maxRecDepth 8000 in
set_option maxHeartbeats 4000000 in
theorem words_12 (d a k : Int) (w : World) (d0 : 0 ≤ d) (d1 : d ≤ 3) (a0 : 0 ≤ a) (a1 : a ≤ 3) (k0 : 0 ≤ k) (k1 : k ≤ 255) (ht : Tabs w) : Calls Tryz.prog 26 #[.iface 86 (.agg #[.int .i64 12, .int .i64 d, .int .i64 a, .int .i64 k])] w (Words4 w [nameS 12, regS d, regS a, digS k]) := by
  have ht1 := ht.below ((Below.refl _ _).alloc (Nat.le_refl _) (.cells #[.int .i64 12, .int .i64 d, .int .i64 a, .int .i64 k] 86))
  obtain ⟨b, o, c, c0, c1, n0, n1⟩ := ht1.names
  have n2 := n1 12 (by omega)
  have S0 : ((w.alloc (.cells #[.int .i64 12, .int .i64 d, .int .i64 a, .int .i64 k] 86)).cell? ⟨1, 0, none⟩ = some (.slice (some ⟨b, o, none⟩) 16 c) ∧ (w.alloc (.cells #[.int .i64 12, .int .i64 d, .int .i64 a, .int .i64 k] 86)).cell? ⟨b, o + 12, none⟩ = some (.string (nameS 12)) ∧ (w.alloc (.cells #[.int .i64 12, .int .i64 d, .int .i64 a, .int .i64 k] 86)).cell? ⟨w.heap.size, 0, none⟩ = some (.int .i64 12) ∧ (w.alloc (.cells #[.int .i64 12, .int .i64 d, .int .i64 a, .int .i64 k] 86)).cell? ⟨w.heap.size, 1, none⟩ = some (.int .i64 d) ∧ (w.alloc (.cells #[.int .i64 12, .int .i64 d, .int .i64 a, .int .i64 k] 86)).cell? ⟨w.heap.size, 2, none⟩ = some (.int .i64 a) ∧ (w.alloc (.cells #[.int .i64 12, .int .i64 d, .int .i64 a, .int .i64 k] 86)).cell? ⟨w.heap.size, 3, none⟩ = some (.int .i64 k) ∧ Tabs (w.alloc (.cells #[.int .i64 12, .int .i64 d, .int .i64 a, .int .i64 k] 86)) ∧ Below w.heap.size w (w.alloc (.cells #[.int .i64 12, .int .i64 d, .int .i64 a, .int .i64 k] 86))) := ⟨n0, n2, by simp, by simp, by simp, by simp, ht1, (Below.refl _ _).alloc (Nat.le_refl _) _⟩
  have KB : ∀ v v' : World, (v.cell? ⟨1, 0, none⟩ = some (.slice (some ⟨b, o, none⟩) 16 c) ∧ v.cell? ⟨b, o + 12, none⟩ = some (.string (nameS 12)) ∧ v.cell? ⟨w.heap.size, 0, none⟩ = some (.int .i64 12) ∧ v.cell? ⟨w.heap.size, 1, none⟩ = some (.int .i64 d) ∧ v.cell? ⟨w.heap.size, 2, none⟩ = some (.int .i64 a) ∧ v.cell? ⟨w.heap.size, 3, none⟩ = some (.int .i64 k) ∧ Tabs v ∧ Below w.heap.size w v) → Below v.heap.size v v' → (v'.cell? ⟨1, 0, none⟩ = some (.slice (some ⟨b, o, none⟩) 16 c) ∧ v'.cell? ⟨b, o + 12, none⟩ = some (.string (nameS 12)) ∧ v'.cell? ⟨w.heap.size, 0, none⟩ = some (.int .i64 12) ∧ v'.cell? ⟨w.heap.size, 1, none⟩ = some (.int .i64 d) ∧ v'.cell? ⟨w.heap.size, 2, none⟩ = some (.int .i64 a) ∧ v'.cell? ⟨w.heap.size, 3, none⟩ = some (.int .i64 k) ∧ Tabs v' ∧ Below w.heap.size w v') := fun v v' h hb => ⟨cell_below hb h.1, cell_below hb h.2.1, cell_below hb h.2.2.1, cell_below hb h.2.2.2.1, cell_below hb h.2.2.2.2.1, cell_below hb h.2.2.2.2.2.1, (h.2.2.2.2.2.2.1).below hb, (h.2.2.2.2.2.2.2).trans (hb.mono (h.2.2.2.2.2.2.2).size)⟩
  have KD : ∀ v : World, (v.cell? ⟨1, 0, none⟩ = some (.slice (some ⟨b, o, none⟩) 16 c) ∧ v.cell? ⟨b, o + 12, none⟩ = some (.string (nameS 12)) ∧ v.cell? ⟨w.heap.size, 0, none⟩ = some (.int .i64 12) ∧ v.cell? ⟨w.heap.size, 1, none⟩ = some (.int .i64 d) ∧ v.cell? ⟨w.heap.size, 2, none⟩ = some (.int .i64 a) ∧ v.cell? ⟨w.heap.size, 3, none⟩ = some (.int .i64 k) ∧ Tabs v ∧ Below w.heap.size w v) → (v.drew.cell? ⟨1, 0, none⟩ = some (.slice (some ⟨b, o, none⟩) 16 c) ∧ v.drew.cell? ⟨b, o + 12, none⟩ = some (.string (nameS 12)) ∧ v.drew.cell? ⟨w.heap.size, 0, none⟩ = some (.int .i64 12) ∧ v.drew.cell? ⟨w.heap.size, 1, none⟩ = some (.int .i64 d) ∧ v.drew.cell? ⟨w.heap.size, 2, none⟩ = some (.int .i64 a) ∧ v.drew.cell? ⟨w.heap.size, 3, none⟩ = some (.int .i64 k) ∧ Tabs v.drew ∧ Below w.heap.size w v.drew) := fun v h => ⟨h.1, h.2.1, h.2.2.1, h.2.2.2.1, h.2.2.2.2.1, h.2.2.2.2.2.1, (h.2.2.2.2.2.2.1).drew, (h.2.2.2.2.2.2.2).drew⟩
  have KT : ∀ v : World, (v.cell? ⟨1, 0, none⟩ = some (.slice (some ⟨b, o, none⟩) 16 c) ∧ v.cell? ⟨b, o + 12, none⟩ = some (.string (nameS 12)) ∧ v.cell? ⟨w.heap.size, 0, none⟩ = some (.int .i64 12) ∧ v.cell? ⟨w.heap.size, 1, none⟩ = some (.int .i64 d) ∧ v.cell? ⟨w.heap.size, 2, none⟩ = some (.int .i64 a) ∧ v.cell? ⟨w.heap.size, 3, none⟩ = some (.int .i64 k) ∧ Tabs v ∧ Below w.heap.size w v) → Tabs v := fun v h => h.2.2.2.2.2.2.1
  have KF : ∀ v : World, (v.cell? ⟨1, 0, none⟩ = some (.slice (some ⟨b, o, none⟩) 16 c) ∧ v.cell? ⟨b, o + 12, none⟩ = some (.string (nameS 12)) ∧ v.cell? ⟨w.heap.size, 0, none⟩ = some (.int .i64 12) ∧ v.cell? ⟨w.heap.size, 1, none⟩ = some (.int .i64 d) ∧ v.cell? ⟨w.heap.size, 2, none⟩ = some (.int .i64 a) ∧ v.cell? ⟨w.heap.size, 3, none⟩ = some (.int .i64 k) ∧ Tabs v ∧ Below w.heap.size w v) → Below w.heap.size w v := fun v h => h.2.2.2.2.2.2.2
  clear n1 ht ht1 n0 n2
  have t0 := ta_ask_stop 12 d a k
  have t1 := ta_ask_set 12 d a k
  have t2 := ta_ask_move 12 d a k
  have t3 := ta_ask_reckon 12 d a k
  have t4 := ta_ask_shift 12 d a k
  have t5 := ta_ask_reach 12 d a k
  have t6 := ta_ask_ask 12 d a k
  go_enter Tryz.func26, Tryz.ntmps26
  go_wp2_with fail
  go_region_held3 (fun v => (v.cell? ⟨1, 0, none⟩ = some (.slice (some ⟨b, o, none⟩) 16 c) ∧ v.cell? ⟨b, o + 12, none⟩ = some (.string (nameS 12)) ∧ v.cell? ⟨w.heap.size, 0, none⟩ = some (.int .i64 12) ∧ v.cell? ⟨w.heap.size, 1, none⟩ = some (.int .i64 d) ∧ v.cell? ⟨w.heap.size, 2, none⟩ = some (.int .i64 a) ∧ v.cell? ⟨w.heap.size, 3, none⟩ = some (.int .i64 k) ∧ Tabs v ∧ Below w.heap.size w v)) (first | exact KD _ (by assumption) | exact KB _ _ (by assumption) (by assumption) | exact KB _ _ (by assumption) ((Below.refl _ _).alloc (Nat.le_refl _) _) | assumption) (first | (go_at_call 43; refine (letter d _ d0 d1).mono ?_; rintro e v ⟨rfl, rfl⟩) | (go_at_call 43; refine (letter a _ a0 a1).mono ?_; rintro e v ⟨rfl, rfl⟩) | (go_at_call 44; refine (itoa k _ k0 k1 (KT _ (by assumption))).mono ?_; rintro e v ⟨rfl, hbv⟩))
  all_goals
    have BN := KF _ (by assumption)
    clear KB KD KT KF
    go_wp2
    go_ret
    first
      | exact ⟨_, rfl, words_cells _ [nameS 12, regS d, regS a, digS k] _, by simp, BN⟩
      | (refine ⟨_, rfl, fun j x h => ?_, by simp, BN⟩
         have q := words_cells (w.alloc (.cells #[.int .i64 12, .int .i64 d, .int .i64 a, .int .i64 k] 86)) [nameS 12, regS d, regS a, digS k] 9 j x h
         have hsz : (w.alloc (.cells #[.int .i64 12, .int .i64 d, .int .i64 a, .int .i64 k] 86)).heap.size = w.heap.size + 1 := by simp
         rw [hsz] at q
         exact q)
set_option maxRecDepth 8000 in
set_option maxHeartbeats 4000000 in
theorem words_13 (a : Int) (w : World) (a0 : 0 ≤ a) (a1 : a ≤ 3) (ht : Tabs w) : Calls Tryz.prog 26 #[.iface 88 (.agg #[.int .i64 a])] w (Words4 w [nameS 13, regS a]) := by
  have ht1 := ht.below ((Below.refl _ _).alloc (Nat.le_refl _) (.cells #[.int .i64 a] 88))
  obtain ⟨b, o, c, c0, c1, n0, n1⟩ := ht1.names
  have n2 := n1 13 (by omega)
  have S0 : ((w.alloc (.cells #[.int .i64 a] 88)).cell? ⟨1, 0, none⟩ = some (.slice (some ⟨b, o, none⟩) 16 c) ∧ (w.alloc (.cells #[.int .i64 a] 88)).cell? ⟨b, o + 13, none⟩ = some (.string (nameS 13)) ∧ (w.alloc (.cells #[.int .i64 a] 88)).cell? ⟨w.heap.size, 0, none⟩ = some (.int .i64 a) ∧ Tabs (w.alloc (.cells #[.int .i64 a] 88)) ∧ Below w.heap.size w (w.alloc (.cells #[.int .i64 a] 88))) := ⟨n0, n2, by simp, ht1, (Below.refl _ _).alloc (Nat.le_refl _) _⟩
  have KB : ∀ v v' : World, (v.cell? ⟨1, 0, none⟩ = some (.slice (some ⟨b, o, none⟩) 16 c) ∧ v.cell? ⟨b, o + 13, none⟩ = some (.string (nameS 13)) ∧ v.cell? ⟨w.heap.size, 0, none⟩ = some (.int .i64 a) ∧ Tabs v ∧ Below w.heap.size w v) → Below v.heap.size v v' → (v'.cell? ⟨1, 0, none⟩ = some (.slice (some ⟨b, o, none⟩) 16 c) ∧ v'.cell? ⟨b, o + 13, none⟩ = some (.string (nameS 13)) ∧ v'.cell? ⟨w.heap.size, 0, none⟩ = some (.int .i64 a) ∧ Tabs v' ∧ Below w.heap.size w v') := fun v v' h hb => ⟨cell_below hb h.1, cell_below hb h.2.1, cell_below hb h.2.2.1, (h.2.2.2.1).below hb, (h.2.2.2.2).trans (hb.mono (h.2.2.2.2).size)⟩
  have KD : ∀ v : World, (v.cell? ⟨1, 0, none⟩ = some (.slice (some ⟨b, o, none⟩) 16 c) ∧ v.cell? ⟨b, o + 13, none⟩ = some (.string (nameS 13)) ∧ v.cell? ⟨w.heap.size, 0, none⟩ = some (.int .i64 a) ∧ Tabs v ∧ Below w.heap.size w v) → (v.drew.cell? ⟨1, 0, none⟩ = some (.slice (some ⟨b, o, none⟩) 16 c) ∧ v.drew.cell? ⟨b, o + 13, none⟩ = some (.string (nameS 13)) ∧ v.drew.cell? ⟨w.heap.size, 0, none⟩ = some (.int .i64 a) ∧ Tabs v.drew ∧ Below w.heap.size w v.drew) := fun v h => ⟨h.1, h.2.1, h.2.2.1, (h.2.2.2.1).drew, (h.2.2.2.2).drew⟩
  have KT : ∀ v : World, (v.cell? ⟨1, 0, none⟩ = some (.slice (some ⟨b, o, none⟩) 16 c) ∧ v.cell? ⟨b, o + 13, none⟩ = some (.string (nameS 13)) ∧ v.cell? ⟨w.heap.size, 0, none⟩ = some (.int .i64 a) ∧ Tabs v ∧ Below w.heap.size w v) → Tabs v := fun v h => h.2.2.2.1
  have KF : ∀ v : World, (v.cell? ⟨1, 0, none⟩ = some (.slice (some ⟨b, o, none⟩) 16 c) ∧ v.cell? ⟨b, o + 13, none⟩ = some (.string (nameS 13)) ∧ v.cell? ⟨w.heap.size, 0, none⟩ = some (.int .i64 a) ∧ Tabs v ∧ Below w.heap.size w v) → Below w.heap.size w v := fun v h => h.2.2.2.2
  clear n1 ht ht1 n0 n2
  have t0 := ta_go_stop a
  have t1 := ta_go_set a
  have t2 := ta_go_move a
  have t3 := ta_go_reckon a
  have t4 := ta_go_shift a
  have t5 := ta_go_reach a
  have t6 := ta_go_ask a
  have t7 := ta_go_go a
  go_enter Tryz.func26, Tryz.ntmps26
  go_wp2_with fail
  go_region_held3 (fun v => (v.cell? ⟨1, 0, none⟩ = some (.slice (some ⟨b, o, none⟩) 16 c) ∧ v.cell? ⟨b, o + 13, none⟩ = some (.string (nameS 13)) ∧ v.cell? ⟨w.heap.size, 0, none⟩ = some (.int .i64 a) ∧ Tabs v ∧ Below w.heap.size w v)) (first | exact KD _ (by assumption) | exact KB _ _ (by assumption) (by assumption) | exact KB _ _ (by assumption) ((Below.refl _ _).alloc (Nat.le_refl _) _) | assumption) (first | (go_at_call 43; refine (letter a _ a0 a1).mono ?_; rintro e v ⟨rfl, rfl⟩))
  all_goals
    have BN := KF _ (by assumption)
    clear KB KD KT KF
    go_wp2
    go_ret
    first
      | exact ⟨_, rfl, words_cells _ [nameS 13, regS a] _, by simp, BN⟩
      | (refine ⟨_, rfl, fun j x h => ?_, by simp, BN⟩
         have q := words_cells (w.alloc (.cells #[.int .i64 a] 88)) [nameS 13, regS a] 9 j x h
         have hsz : (w.alloc (.cells #[.int .i64 a] 88)).heap.size = w.heap.size + 1 := by simp
         rw [hsz] at q
         exact q)
set_option maxRecDepth 8000 in
set_option maxHeartbeats 4000000 in
theorem words_14 (d : Int) (w : World) (d0 : 0 ≤ d) (d1 : d ≤ 3) (ht : Tabs w) : Calls Tryz.prog 26 #[.iface 90 (.agg #[.int .i64 14, .int .i64 d])] w (Words4 w [nameS 14, regS d]) := by
  have ht1 := ht.below ((Below.refl _ _).alloc (Nat.le_refl _) (.cells #[.int .i64 14, .int .i64 d] 90))
  obtain ⟨b, o, c, c0, c1, n0, n1⟩ := ht1.names
  have n2 := n1 14 (by omega)
  have S0 : ((w.alloc (.cells #[.int .i64 14, .int .i64 d] 90)).cell? ⟨1, 0, none⟩ = some (.slice (some ⟨b, o, none⟩) 16 c) ∧ (w.alloc (.cells #[.int .i64 14, .int .i64 d] 90)).cell? ⟨b, o + 14, none⟩ = some (.string (nameS 14)) ∧ (w.alloc (.cells #[.int .i64 14, .int .i64 d] 90)).cell? ⟨w.heap.size, 0, none⟩ = some (.int .i64 14) ∧ (w.alloc (.cells #[.int .i64 14, .int .i64 d] 90)).cell? ⟨w.heap.size, 1, none⟩ = some (.int .i64 d) ∧ Tabs (w.alloc (.cells #[.int .i64 14, .int .i64 d] 90)) ∧ Below w.heap.size w (w.alloc (.cells #[.int .i64 14, .int .i64 d] 90))) := ⟨n0, n2, by simp, by simp, ht1, (Below.refl _ _).alloc (Nat.le_refl _) _⟩
  have KB : ∀ v v' : World, (v.cell? ⟨1, 0, none⟩ = some (.slice (some ⟨b, o, none⟩) 16 c) ∧ v.cell? ⟨b, o + 14, none⟩ = some (.string (nameS 14)) ∧ v.cell? ⟨w.heap.size, 0, none⟩ = some (.int .i64 14) ∧ v.cell? ⟨w.heap.size, 1, none⟩ = some (.int .i64 d) ∧ Tabs v ∧ Below w.heap.size w v) → Below v.heap.size v v' → (v'.cell? ⟨1, 0, none⟩ = some (.slice (some ⟨b, o, none⟩) 16 c) ∧ v'.cell? ⟨b, o + 14, none⟩ = some (.string (nameS 14)) ∧ v'.cell? ⟨w.heap.size, 0, none⟩ = some (.int .i64 14) ∧ v'.cell? ⟨w.heap.size, 1, none⟩ = some (.int .i64 d) ∧ Tabs v' ∧ Below w.heap.size w v') := fun v v' h hb => ⟨cell_below hb h.1, cell_below hb h.2.1, cell_below hb h.2.2.1, cell_below hb h.2.2.2.1, (h.2.2.2.2.1).below hb, (h.2.2.2.2.2).trans (hb.mono (h.2.2.2.2.2).size)⟩
  have KD : ∀ v : World, (v.cell? ⟨1, 0, none⟩ = some (.slice (some ⟨b, o, none⟩) 16 c) ∧ v.cell? ⟨b, o + 14, none⟩ = some (.string (nameS 14)) ∧ v.cell? ⟨w.heap.size, 0, none⟩ = some (.int .i64 14) ∧ v.cell? ⟨w.heap.size, 1, none⟩ = some (.int .i64 d) ∧ Tabs v ∧ Below w.heap.size w v) → (v.drew.cell? ⟨1, 0, none⟩ = some (.slice (some ⟨b, o, none⟩) 16 c) ∧ v.drew.cell? ⟨b, o + 14, none⟩ = some (.string (nameS 14)) ∧ v.drew.cell? ⟨w.heap.size, 0, none⟩ = some (.int .i64 14) ∧ v.drew.cell? ⟨w.heap.size, 1, none⟩ = some (.int .i64 d) ∧ Tabs v.drew ∧ Below w.heap.size w v.drew) := fun v h => ⟨h.1, h.2.1, h.2.2.1, h.2.2.2.1, (h.2.2.2.2.1).drew, (h.2.2.2.2.2).drew⟩
  have KT : ∀ v : World, (v.cell? ⟨1, 0, none⟩ = some (.slice (some ⟨b, o, none⟩) 16 c) ∧ v.cell? ⟨b, o + 14, none⟩ = some (.string (nameS 14)) ∧ v.cell? ⟨w.heap.size, 0, none⟩ = some (.int .i64 14) ∧ v.cell? ⟨w.heap.size, 1, none⟩ = some (.int .i64 d) ∧ Tabs v ∧ Below w.heap.size w v) → Tabs v := fun v h => h.2.2.2.2.1
  have KF : ∀ v : World, (v.cell? ⟨1, 0, none⟩ = some (.slice (some ⟨b, o, none⟩) 16 c) ∧ v.cell? ⟨b, o + 14, none⟩ = some (.string (nameS 14)) ∧ v.cell? ⟨w.heap.size, 0, none⟩ = some (.int .i64 14) ∧ v.cell? ⟨w.heap.size, 1, none⟩ = some (.int .i64 d) ∧ Tabs v ∧ Below w.heap.size w v) → Below w.heap.size w v := fun v h => h.2.2.2.2.2
  clear n1 ht ht1 n0 n2
  have t0 := ta_pass_stop 14 d
  have t1 := ta_pass_set 14 d
  have t2 := ta_pass_move 14 d
  have t3 := ta_pass_reckon 14 d
  have t4 := ta_pass_shift 14 d
  have t5 := ta_pass_reach 14 d
  have t6 := ta_pass_ask 14 d
  have t7 := ta_pass_go 14 d
  have t8 := ta_pass_pass 14 d
  go_enter Tryz.func26, Tryz.ntmps26
  go_wp2_with fail
  go_region_held3 (fun v => (v.cell? ⟨1, 0, none⟩ = some (.slice (some ⟨b, o, none⟩) 16 c) ∧ v.cell? ⟨b, o + 14, none⟩ = some (.string (nameS 14)) ∧ v.cell? ⟨w.heap.size, 0, none⟩ = some (.int .i64 14) ∧ v.cell? ⟨w.heap.size, 1, none⟩ = some (.int .i64 d) ∧ Tabs v ∧ Below w.heap.size w v)) (first | exact KD _ (by assumption) | exact KB _ _ (by assumption) (by assumption) | exact KB _ _ (by assumption) ((Below.refl _ _).alloc (Nat.le_refl _) _) | assumption) (first | (go_at_call 43; refine (letter d _ d0 d1).mono ?_; rintro e v ⟨rfl, rfl⟩))
  all_goals
    have BN := KF _ (by assumption)
    clear KB KD KT KF
    go_wp2
    go_ret
    first
      | exact ⟨_, rfl, words_cells _ [nameS 14, regS d] _, by simp, BN⟩
      | (refine ⟨_, rfl, fun j x h => ?_, by simp, BN⟩
         have q := words_cells (w.alloc (.cells #[.int .i64 14, .int .i64 d] 90)) [nameS 14, regS d] 9 j x h
         have hsz : (w.alloc (.cells #[.int .i64 14, .int .i64 d] 90)).heap.size = w.heap.size + 1 := by simp
         rw [hsz] at q
         exact q)
set_option maxRecDepth 8000 in
set_option maxHeartbeats 4000000 in
theorem words_15 (d : Int) (w : World) (d0 : 0 ≤ d) (d1 : d ≤ 3) (ht : Tabs w) : Calls Tryz.prog 26 #[.iface 90 (.agg #[.int .i64 15, .int .i64 d])] w (Words4 w [nameS 15, regS d]) := by
  have ht1 := ht.below ((Below.refl _ _).alloc (Nat.le_refl _) (.cells #[.int .i64 15, .int .i64 d] 90))
  obtain ⟨b, o, c, c0, c1, n0, n1⟩ := ht1.names
  have n2 := n1 15 (by omega)
  have S0 : ((w.alloc (.cells #[.int .i64 15, .int .i64 d] 90)).cell? ⟨1, 0, none⟩ = some (.slice (some ⟨b, o, none⟩) 16 c) ∧ (w.alloc (.cells #[.int .i64 15, .int .i64 d] 90)).cell? ⟨b, o + 15, none⟩ = some (.string (nameS 15)) ∧ (w.alloc (.cells #[.int .i64 15, .int .i64 d] 90)).cell? ⟨w.heap.size, 0, none⟩ = some (.int .i64 15) ∧ (w.alloc (.cells #[.int .i64 15, .int .i64 d] 90)).cell? ⟨w.heap.size, 1, none⟩ = some (.int .i64 d) ∧ Tabs (w.alloc (.cells #[.int .i64 15, .int .i64 d] 90)) ∧ Below w.heap.size w (w.alloc (.cells #[.int .i64 15, .int .i64 d] 90))) := ⟨n0, n2, by simp, by simp, ht1, (Below.refl _ _).alloc (Nat.le_refl _) _⟩
  have KB : ∀ v v' : World, (v.cell? ⟨1, 0, none⟩ = some (.slice (some ⟨b, o, none⟩) 16 c) ∧ v.cell? ⟨b, o + 15, none⟩ = some (.string (nameS 15)) ∧ v.cell? ⟨w.heap.size, 0, none⟩ = some (.int .i64 15) ∧ v.cell? ⟨w.heap.size, 1, none⟩ = some (.int .i64 d) ∧ Tabs v ∧ Below w.heap.size w v) → Below v.heap.size v v' → (v'.cell? ⟨1, 0, none⟩ = some (.slice (some ⟨b, o, none⟩) 16 c) ∧ v'.cell? ⟨b, o + 15, none⟩ = some (.string (nameS 15)) ∧ v'.cell? ⟨w.heap.size, 0, none⟩ = some (.int .i64 15) ∧ v'.cell? ⟨w.heap.size, 1, none⟩ = some (.int .i64 d) ∧ Tabs v' ∧ Below w.heap.size w v') := fun v v' h hb => ⟨cell_below hb h.1, cell_below hb h.2.1, cell_below hb h.2.2.1, cell_below hb h.2.2.2.1, (h.2.2.2.2.1).below hb, (h.2.2.2.2.2).trans (hb.mono (h.2.2.2.2.2).size)⟩
  have KD : ∀ v : World, (v.cell? ⟨1, 0, none⟩ = some (.slice (some ⟨b, o, none⟩) 16 c) ∧ v.cell? ⟨b, o + 15, none⟩ = some (.string (nameS 15)) ∧ v.cell? ⟨w.heap.size, 0, none⟩ = some (.int .i64 15) ∧ v.cell? ⟨w.heap.size, 1, none⟩ = some (.int .i64 d) ∧ Tabs v ∧ Below w.heap.size w v) → (v.drew.cell? ⟨1, 0, none⟩ = some (.slice (some ⟨b, o, none⟩) 16 c) ∧ v.drew.cell? ⟨b, o + 15, none⟩ = some (.string (nameS 15)) ∧ v.drew.cell? ⟨w.heap.size, 0, none⟩ = some (.int .i64 15) ∧ v.drew.cell? ⟨w.heap.size, 1, none⟩ = some (.int .i64 d) ∧ Tabs v.drew ∧ Below w.heap.size w v.drew) := fun v h => ⟨h.1, h.2.1, h.2.2.1, h.2.2.2.1, (h.2.2.2.2.1).drew, (h.2.2.2.2.2).drew⟩
  have KT : ∀ v : World, (v.cell? ⟨1, 0, none⟩ = some (.slice (some ⟨b, o, none⟩) 16 c) ∧ v.cell? ⟨b, o + 15, none⟩ = some (.string (nameS 15)) ∧ v.cell? ⟨w.heap.size, 0, none⟩ = some (.int .i64 15) ∧ v.cell? ⟨w.heap.size, 1, none⟩ = some (.int .i64 d) ∧ Tabs v ∧ Below w.heap.size w v) → Tabs v := fun v h => h.2.2.2.2.1
  have KF : ∀ v : World, (v.cell? ⟨1, 0, none⟩ = some (.slice (some ⟨b, o, none⟩) 16 c) ∧ v.cell? ⟨b, o + 15, none⟩ = some (.string (nameS 15)) ∧ v.cell? ⟨w.heap.size, 0, none⟩ = some (.int .i64 15) ∧ v.cell? ⟨w.heap.size, 1, none⟩ = some (.int .i64 d) ∧ Tabs v ∧ Below w.heap.size w v) → Below w.heap.size w v := fun v h => h.2.2.2.2.2
  clear n1 ht ht1 n0 n2
  have t0 := ta_pass_stop 15 d
  have t1 := ta_pass_set 15 d
  have t2 := ta_pass_move 15 d
  have t3 := ta_pass_reckon 15 d
  have t4 := ta_pass_shift 15 d
  have t5 := ta_pass_reach 15 d
  have t6 := ta_pass_ask 15 d
  have t7 := ta_pass_go 15 d
  have t8 := ta_pass_pass 15 d
  go_enter Tryz.func26, Tryz.ntmps26
  go_wp2_with fail
  go_region_held3 (fun v => (v.cell? ⟨1, 0, none⟩ = some (.slice (some ⟨b, o, none⟩) 16 c) ∧ v.cell? ⟨b, o + 15, none⟩ = some (.string (nameS 15)) ∧ v.cell? ⟨w.heap.size, 0, none⟩ = some (.int .i64 15) ∧ v.cell? ⟨w.heap.size, 1, none⟩ = some (.int .i64 d) ∧ Tabs v ∧ Below w.heap.size w v)) (first | exact KD _ (by assumption) | exact KB _ _ (by assumption) (by assumption) | exact KB _ _ (by assumption) ((Below.refl _ _).alloc (Nat.le_refl _) _) | assumption) (first | (go_at_call 43; refine (letter d _ d0 d1).mono ?_; rintro e v ⟨rfl, rfl⟩))
  all_goals
    have BN := KF _ (by assumption)
    clear KB KD KT KF
    go_wp2
    go_ret
    first
      | exact ⟨_, rfl, words_cells _ [nameS 15, regS d] _, by simp, BN⟩
      | (refine ⟨_, rfl, fun j x h => ?_, by simp, BN⟩
         have q := words_cells (w.alloc (.cells #[.int .i64 15, .int .i64 d] 90)) [nameS 15, regS d] 9 j x h
         have hsz : (w.alloc (.cells #[.int .i64 15, .int .i64 d] 90)).heap.size = w.heap.size + 1 := by simp
         rw [hsz] at q
         exact q)
end Go.Proofs.YthpajjlhjfhdpaaGreatDoor.InsI
