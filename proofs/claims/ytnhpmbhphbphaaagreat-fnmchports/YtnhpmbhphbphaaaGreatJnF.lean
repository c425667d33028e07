/-
  The program's InsOk at the kinds 0 to 4.
-/
import Derived.Test.YtnhpmbhphbphaaaGreatInsF
import Derived.Test.YtnhpmbhphbphaaaGreatJnB
namespace Go.Proofs.YtnhpmbhphbphaaaGreat.InsI
open Go.ChangeShapes Go.WideShapes Go.ChangeAt Go.RowKit Ins
set_option maxHeartbeats 4000000 in
theorem insOk_0 (d a k : Int) (w : World) : Calls Tryz.prog 50 #[.agg #[.int .i64 0, .int .i64 d, .int .i64 a, .int .i64 k]] w fun e w' => e = .returned (.bool (okB 0 d a k)) ∧ Below w.heap.size w w' := by
  have m1 := stop_ok_m k
  have m2 := stop_plain_m k
  have q1 := stop_ok k
  have q2 := stop_plain k
  have HK := hide (ok_0 d a k)
  generalize (inB k 0 3) = b at q1 HK
  have B0 : Below w.heap.size w (w.alloc (.cells #[.int .i64 0, .int .i64 d, .int .i64 a, .int .i64 k] 38)) := (Below.refl _ _).alloc (Nat.le_refl _) _
  go_enter Tryz.func50, Tryz.ntmps50
  go_wp2_with fail
  refine (formOf_0 d a k _).mono ?_
  rintro e w1 ⟨rfl, hb⟩
  have B1 := (B0.trans (hb.mono B0.size)).drew
  have c0 : w1.cell? ⟨w.heap.size, 0, none⟩ = some (.int .i64 0) := cell_below hb (by simp)
  have c1 : w1.cell? ⟨w.heap.size, 1, none⟩ = some (.int .i64 d) := cell_below hb (by simp)
  have c2 : w1.cell? ⟨w.heap.size, 2, none⟩ = some (.int .i64 a) := cell_below hb (by simp)
  have c3 : w1.cell? ⟨w.heap.size, 3, none⟩ = some (.int .i64 k) := cell_below hb (by simp)
  clear hb B0
  go_wp2_with fail
  cases b with
  | false =>
    first | (go_region_with (go_at_call 124; refine (q1 _).mono ?_; rintro e w2 ⟨rfl, hb2⟩)) | fail
    all_goals
      clear c0 c1 c2 c3
      have B2 := B1.trans (hb2.mono B1.size)
      clear hb2 B1 q1 q2 m1 m2
      go_wp2
      go_ret
      exact ⟨ret_bool (by rw [HK.out]; rfl), B2⟩
  | true =>
    by_cases e_d : d = 0
    · subst e_d
      by_cases e_a : a = 0
      · subst e_a
        first | (go_region_with (first | (go_at_call 124; refine (q1 _).mono ?_; rintro e w2 ⟨rfl, hb2⟩; replace c0 := cell_below hb2 c0; replace c1 := cell_below hb2 c1; replace c2 := cell_below hb2 c2; replace c3 := cell_below hb2 c3) | (go_at_call 125; refine (q2 _).mono ?_; rintro e w3 ⟨rfl, hb3⟩; replace c0 := cell_below hb3 c0; replace c1 := cell_below hb3 c1; replace c2 := cell_below hb3 c2; replace c3 := cell_below hb3 c3))) | fail
        all_goals
          clear c0 c1 c2 c3
          have B2 := B1.trans (hb2.mono B1.size)
          have B3 := B2.trans (hb3.mono B2.size)
          clear hb2 hb3 B1 B2 q1 q2 m1 m2
          go_wp2
          go_ret
          refine ⟨ret_bool ?_, B3⟩
          rw [HK.out]
          clear HK B3
          first | rfl | (rw [Bool.eq_iff_iff]; simp; omega) | (rw [Bool.eq_iff_iff]; simp; done)
      · have n_a : ((0 : Int) == a) = false := beq_eq_false_iff_ne.2 (Ne.symm e_a)
        first | (go_region_with (first | (go_at_call 124; refine (q1 _).mono ?_; rintro e w2 ⟨rfl, hb2⟩; replace c0 := cell_below hb2 c0; replace c1 := cell_below hb2 c1; replace c2 := cell_below hb2 c2; replace c3 := cell_below hb2 c3) | (go_at_call 125; refine (q2 _).mono ?_; rintro e w3 ⟨rfl, hb3⟩; replace c0 := cell_below hb3 c0; replace c1 := cell_below hb3 c1; replace c2 := cell_below hb3 c2; replace c3 := cell_below hb3 c3))) | fail
        all_goals
          clear c0 c1 c2 c3
          have B2 := B1.trans (hb2.mono B1.size)
          have B3 := B2.trans (hb3.mono B2.size)
          clear hb2 hb3 B1 B2 q1 q2 m1 m2
          go_wp2
          go_ret
          refine ⟨ret_bool ?_, B3⟩
          rw [HK.out]
          clear HK B3
          first | rfl | (rw [Bool.eq_iff_iff]; simp; omega) | (rw [Bool.eq_iff_iff]; simp; done)
    · have n_d : ((0 : Int) == d) = false := beq_eq_false_iff_ne.2 (Ne.symm e_d)
      first | (go_region_with (first | (go_at_call 124; refine (q1 _).mono ?_; rintro e w2 ⟨rfl, hb2⟩; replace c0 := cell_below hb2 c0; replace c1 := cell_below hb2 c1; replace c2 := cell_below hb2 c2; replace c3 := cell_below hb2 c3) | (go_at_call 125; refine (q2 _).mono ?_; rintro e w3 ⟨rfl, hb3⟩; replace c0 := cell_below hb3 c0; replace c1 := cell_below hb3 c1; replace c2 := cell_below hb3 c2; replace c3 := cell_below hb3 c3))) | fail
      all_goals
        clear c0 c1 c2 c3
        have B2 := B1.trans (hb2.mono B1.size)
        have B3 := B2.trans (hb3.mono B2.size)
        clear hb2 hb3 B1 B2 q1 q2 m1 m2
        go_wp2
        go_ret
        refine ⟨ret_bool ?_, B3⟩
        rw [HK.out]
        clear HK B3
        first | rfl | (rw [Bool.eq_iff_iff]; simp; omega) | (rw [Bool.eq_iff_iff]; simp; done)
set_option maxHeartbeats 4000000 in
theorem insOk_1 (d a k : Int) (w : World) : Calls Tryz.prog 50 #[.agg #[.int .i64 1, .int .i64 d, .int .i64 a, .int .i64 k]] w fun e w' => e = .returned (.bool (okB 1 d a k)) ∧ Below w.heap.size w w' := by
  have m1 := set_ok_m d k
  have m2 := set_plain_m d k
  have q1 := set_ok d k
  have q2 := set_plain d k
  have HK := hide (ok_1 d a k)
  generalize (inB d 0 3 && inB k 0 255) = b at q1 HK
  have B0 : Below w.heap.size w (w.alloc (.cells #[.int .i64 1, .int .i64 d, .int .i64 a, .int .i64 k] 38)) := (Below.refl _ _).alloc (Nat.le_refl _) _
  go_enter Tryz.func50, Tryz.ntmps50
  go_wp2_with fail
  refine (formOf_1 d a k _).mono ?_
  rintro e w1 ⟨rfl, hb⟩
  have B1 := (B0.trans (hb.mono B0.size)).drew
  have c0 : w1.cell? ⟨w.heap.size, 0, none⟩ = some (.int .i64 1) := cell_below hb (by simp)
  have c1 : w1.cell? ⟨w.heap.size, 1, none⟩ = some (.int .i64 d) := cell_below hb (by simp)
  have c2 : w1.cell? ⟨w.heap.size, 2, none⟩ = some (.int .i64 a) := cell_below hb (by simp)
  have c3 : w1.cell? ⟨w.heap.size, 3, none⟩ = some (.int .i64 k) := cell_below hb (by simp)
  clear hb B0
  go_wp2_with fail
  cases b with
  | false =>
    first | (go_region_with (go_at_call 126; refine (q1 _).mono ?_; rintro e w2 ⟨rfl, hb2⟩)) | fail
    all_goals
      clear c0 c1 c2 c3
      have B2 := B1.trans (hb2.mono B1.size)
      clear hb2 B1 q1 q2 m1 m2
      go_wp2
      go_ret
      exact ⟨ret_bool (by rw [HK.out]; rfl), B2⟩
  | true =>
    by_cases e_a : a = 0
    · subst e_a
      first | (go_region_with (first | (go_at_call 126; refine (q1 _).mono ?_; rintro e w2 ⟨rfl, hb2⟩; replace c0 := cell_below hb2 c0; replace c1 := cell_below hb2 c1; replace c2 := cell_below hb2 c2; replace c3 := cell_below hb2 c3) | (go_at_call 127; refine (q2 _).mono ?_; rintro e w3 ⟨rfl, hb3⟩; replace c0 := cell_below hb3 c0; replace c1 := cell_below hb3 c1; replace c2 := cell_below hb3 c2; replace c3 := cell_below hb3 c3))) | fail
      all_goals
        clear c0 c1 c2 c3
        have B2 := B1.trans (hb2.mono B1.size)
        have B3 := B2.trans (hb3.mono B2.size)
        clear hb2 hb3 B1 B2 q1 q2 m1 m2
        go_wp2
        go_ret
        refine ⟨ret_bool ?_, B3⟩
        rw [HK.out]
        clear HK B3
        first | rfl | (rw [Bool.eq_iff_iff]; simp; omega) | (rw [Bool.eq_iff_iff]; simp; done)
    · have n_a : ((0 : Int) == a) = false := beq_eq_false_iff_ne.2 (Ne.symm e_a)
      first | (go_region_with (first | (go_at_call 126; refine (q1 _).mono ?_; rintro e w2 ⟨rfl, hb2⟩; replace c0 := cell_below hb2 c0; replace c1 := cell_below hb2 c1; replace c2 := cell_below hb2 c2; replace c3 := cell_below hb2 c3) | (go_at_call 127; refine (q2 _).mono ?_; rintro e w3 ⟨rfl, hb3⟩; replace c0 := cell_below hb3 c0; replace c1 := cell_below hb3 c1; replace c2 := cell_below hb3 c2; replace c3 := cell_below hb3 c3))) | fail
      all_goals
        clear c0 c1 c2 c3
        have B2 := B1.trans (hb2.mono B1.size)
        have B3 := B2.trans (hb3.mono B2.size)
        clear hb2 hb3 B1 B2 q1 q2 m1 m2
        go_wp2
        go_ret
        refine ⟨ret_bool ?_, B3⟩
        rw [HK.out]
        clear HK B3
        first | rfl | (rw [Bool.eq_iff_iff]; simp; omega) | (rw [Bool.eq_iff_iff]; simp; done)
set_option maxHeartbeats 4000000 in
theorem insOk_2 (d a k : Int) (w : World) : Calls Tryz.prog 50 #[.agg #[.int .i64 2, .int .i64 d, .int .i64 a, .int .i64 k]] w fun e w' => e = .returned (.bool (okB 2 d a k)) ∧ Below w.heap.size w w' := by
  have m1 := move_ok_m d a
  have m2 := move_plain_m d a
  have q1 := move_ok d a
  have q2 := move_plain d a
  have HK := hide (ok_2 d a k)
  generalize (inB d 0 3 && inB a 0 3) = b at q1 HK
  have B0 : Below w.heap.size w (w.alloc (.cells #[.int .i64 2, .int .i64 d, .int .i64 a, .int .i64 k] 38)) := (Below.refl _ _).alloc (Nat.le_refl _) _
  go_enter Tryz.func50, Tryz.ntmps50
  go_wp2_with fail
  refine (formOf_2 d a k _).mono ?_
  rintro e w1 ⟨rfl, hb⟩
  have B1 := (B0.trans (hb.mono B0.size)).drew
  have c0 : w1.cell? ⟨w.heap.size, 0, none⟩ = some (.int .i64 2) := cell_below hb (by simp)
  have c1 : w1.cell? ⟨w.heap.size, 1, none⟩ = some (.int .i64 d) := cell_below hb (by simp)
  have c2 : w1.cell? ⟨w.heap.size, 2, none⟩ = some (.int .i64 a) := cell_below hb (by simp)
  have c3 : w1.cell? ⟨w.heap.size, 3, none⟩ = some (.int .i64 k) := cell_below hb (by simp)
  clear hb B0
  go_wp2_with fail
  cases b with
  | false =>
    first | (go_region_with (go_at_call 130; refine (q1 _).mono ?_; rintro e w2 ⟨rfl, hb2⟩)) | fail
    all_goals
      clear c0 c1 c2 c3
      have B2 := B1.trans (hb2.mono B1.size)
      clear hb2 B1 q1 q2 m1 m2
      go_wp2
      go_ret
      exact ⟨ret_bool (by rw [HK.out]; rfl), B2⟩
  | true =>
    by_cases e_k : k = 0
    · subst e_k
      first | (go_region_with (first | (go_at_call 130; refine (q1 _).mono ?_; rintro e w2 ⟨rfl, hb2⟩; replace c0 := cell_below hb2 c0; replace c1 := cell_below hb2 c1; replace c2 := cell_below hb2 c2; replace c3 := cell_below hb2 c3) | (go_at_call 131; refine (q2 _).mono ?_; rintro e w3 ⟨rfl, hb3⟩; replace c0 := cell_below hb3 c0; replace c1 := cell_below hb3 c1; replace c2 := cell_below hb3 c2; replace c3 := cell_below hb3 c3))) | fail
      all_goals
        clear c0 c1 c2 c3
        have B2 := B1.trans (hb2.mono B1.size)
        have B3 := B2.trans (hb3.mono B2.size)
        clear hb2 hb3 B1 B2 q1 q2 m1 m2
        go_wp2
        go_ret
        refine ⟨ret_bool ?_, B3⟩
        rw [HK.out]
        clear HK B3
        first | rfl | (rw [Bool.eq_iff_iff]; simp; omega) | (rw [Bool.eq_iff_iff]; simp; done)
    · have n_k : ((0 : Int) == k) = false := beq_eq_false_iff_ne.2 (Ne.symm e_k)
      first | (go_region_with (first | (go_at_call 130; refine (q1 _).mono ?_; rintro e w2 ⟨rfl, hb2⟩; replace c0 := cell_below hb2 c0; replace c1 := cell_below hb2 c1; replace c2 := cell_below hb2 c2; replace c3 := cell_below hb2 c3) | (go_at_call 131; refine (q2 _).mono ?_; rintro e w3 ⟨rfl, hb3⟩; replace c0 := cell_below hb3 c0; replace c1 := cell_below hb3 c1; replace c2 := cell_below hb3 c2; replace c3 := cell_below hb3 c3))) | fail
      all_goals
        clear c0 c1 c2 c3
        have B2 := B1.trans (hb2.mono B1.size)
        have B3 := B2.trans (hb3.mono B2.size)
        clear hb2 hb3 B1 B2 q1 q2 m1 m2
        go_wp2
        go_ret
        refine ⟨ret_bool ?_, B3⟩
        rw [HK.out]
        clear HK B3
        first | rfl | (rw [Bool.eq_iff_iff]; simp; omega) | (rw [Bool.eq_iff_iff]; simp; done)
set_option maxHeartbeats 4000000 in
theorem insOk_3 (d a k : Int) (w : World) : Calls Tryz.prog 50 #[.agg #[.int .i64 3, .int .i64 d, .int .i64 a, .int .i64 k]] w fun e w' => e = .returned (.bool (okB 3 d a k)) ∧ Below w.heap.size w w' := by
  have m1 := reckon_ok_m 3 d a k
  have m2 := reckon_plain_m 3 d a k
  have q1 := reckon_ok 3 d a k
  have q2 := reckon_plain 3 d a k
  have HK := hide (ok_3 d a k)
  generalize (inB d 0 3 && inB a 0 3 && inB k 0 3) = b at q1 HK
  have B0 : Below w.heap.size w (w.alloc (.cells #[.int .i64 3, .int .i64 d, .int .i64 a, .int .i64 k] 38)) := (Below.refl _ _).alloc (Nat.le_refl _) _
  go_enter Tryz.func50, Tryz.ntmps50
  go_wp2_with fail
  refine (formOf_3 d a k _).mono ?_
  rintro e w1 ⟨rfl, hb⟩
  have B1 := (B0.trans (hb.mono B0.size)).drew
  have c0 : w1.cell? ⟨w.heap.size, 0, none⟩ = some (.int .i64 3) := cell_below hb (by simp)
  have c1 : w1.cell? ⟨w.heap.size, 1, none⟩ = some (.int .i64 d) := cell_below hb (by simp)
  have c2 : w1.cell? ⟨w.heap.size, 2, none⟩ = some (.int .i64 a) := cell_below hb (by simp)
  have c3 : w1.cell? ⟨w.heap.size, 3, none⟩ = some (.int .i64 k) := cell_below hb (by simp)
  clear hb B0
  go_wp2_with fail
  cases b with
  | false =>
    first | (go_region_with (go_at_call 132; refine (q1 _).mono ?_; rintro e w2 ⟨rfl, hb2⟩)) | fail
    all_goals
      clear c0 c1 c2 c3
      have B2 := B1.trans (hb2.mono B1.size)
      clear hb2 B1 q1 q2 m1 m2
      go_wp2
      go_ret
      exact ⟨ret_bool (by rw [HK.out]; rfl), B2⟩
  | true =>
    first | (go_region_with (first | (go_at_call 132; refine (q1 _).mono ?_; rintro e w2 ⟨rfl, hb2⟩; replace c0 := cell_below hb2 c0; replace c1 := cell_below hb2 c1; replace c2 := cell_below hb2 c2; replace c3 := cell_below hb2 c3) | (go_at_call 133; refine (q2 _).mono ?_; rintro e w3 ⟨rfl, hb3⟩; replace c0 := cell_below hb3 c0; replace c1 := cell_below hb3 c1; replace c2 := cell_below hb3 c2; replace c3 := cell_below hb3 c3))) | fail
    all_goals
      clear c0 c1 c2 c3
      have B2 := B1.trans (hb2.mono B1.size)
      have B3 := B2.trans (hb3.mono B2.size)
      clear hb2 hb3 B1 B2 q1 q2 m1 m2
      go_wp2
      go_ret
      refine ⟨ret_bool ?_, B3⟩
      rw [HK.out]
      clear HK B3
      first | rfl | (rw [Bool.eq_iff_iff]; simp; omega) | (rw [Bool.eq_iff_iff]; simp; done)
set_option maxHeartbeats 4000000 in
theorem insOk_4 (d a k : Int) (w : World) : Calls Tryz.prog 50 #[.agg #[.int .i64 4, .int .i64 d, .int .i64 a, .int .i64 k]] w fun e w' => e = .returned (.bool (okB 4 d a k)) ∧ Below w.heap.size w w' := by
  have m1 := reckon_ok_m 4 d a k
  have m2 := reckon_plain_m 4 d a k
  have q1 := reckon_ok 4 d a k
  have q2 := reckon_plain 4 d a k
  have HK := hide (ok_4 d a k)
  generalize (inB d 0 3 && inB a 0 3 && inB k 0 3) = b at q1 HK
  have B0 : Below w.heap.size w (w.alloc (.cells #[.int .i64 4, .int .i64 d, .int .i64 a, .int .i64 k] 38)) := (Below.refl _ _).alloc (Nat.le_refl _) _
  go_enter Tryz.func50, Tryz.ntmps50
  go_wp2_with fail
  refine (formOf_4 d a k _).mono ?_
  rintro e w1 ⟨rfl, hb⟩
  have B1 := (B0.trans (hb.mono B0.size)).drew
  have c0 : w1.cell? ⟨w.heap.size, 0, none⟩ = some (.int .i64 4) := cell_below hb (by simp)
  have c1 : w1.cell? ⟨w.heap.size, 1, none⟩ = some (.int .i64 d) := cell_below hb (by simp)
  have c2 : w1.cell? ⟨w.heap.size, 2, none⟩ = some (.int .i64 a) := cell_below hb (by simp)
  have c3 : w1.cell? ⟨w.heap.size, 3, none⟩ = some (.int .i64 k) := cell_below hb (by simp)
  clear hb B0
  go_wp2_with fail
  cases b with
  | false =>
    first | (go_region_with (go_at_call 132; refine (q1 _).mono ?_; rintro e w2 ⟨rfl, hb2⟩)) | fail
    all_goals
      clear c0 c1 c2 c3
      have B2 := B1.trans (hb2.mono B1.size)
      clear hb2 B1 q1 q2 m1 m2
      go_wp2
      go_ret
      exact ⟨ret_bool (by rw [HK.out]; rfl), B2⟩
  | true =>
    first | (go_region_with (first | (go_at_call 132; refine (q1 _).mono ?_; rintro e w2 ⟨rfl, hb2⟩; replace c0 := cell_below hb2 c0; replace c1 := cell_below hb2 c1; replace c2 := cell_below hb2 c2; replace c3 := cell_below hb2 c3) | (go_at_call 133; refine (q2 _).mono ?_; rintro e w3 ⟨rfl, hb3⟩; replace c0 := cell_below hb3 c0; replace c1 := cell_below hb3 c1; replace c2 := cell_below hb3 c2; replace c3 := cell_below hb3 c3))) | fail
    all_goals
      clear c0 c1 c2 c3
      have B2 := B1.trans (hb2.mono B1.size)
      have B3 := B2.trans (hb3.mono B2.size)
      clear hb2 hb3 B1 B2 q1 q2 m1 m2
      go_wp2
      go_ret
      refine ⟨ret_bool ?_, B3⟩
      rw [HK.out]
      clear HK B3
      first | rfl | (rw [Bool.eq_iff_iff]; simp; omega) | (rw [Bool.eq_iff_iff]; simp; done)
end Go.Proofs.YtnhpmbhphbphaaaGreat.InsI
namespace Go.Proofs.YtnhpmbhphbphaaaGreat.InsI
open Go.ChangeShapes Go.WideShapes Go.ChangeAt Go.RowKit Ins
set_option maxHeartbeats 4000000 in
theorem insOk_5 (d a k : Int) (w : World) : Calls Tryz.prog 50 #[.agg #[.int .i64 5, .int .i64 d, .int .i64 a, .int .i64 k]] w fun e w' => e = .returned (.bool (okB 5 d a k)) ∧ Below w.heap.size w w' := by
  have m1 := reckon_ok_m 5 d a k
  have m2 := reckon_plain_m 5 d a k
  have q1 := reckon_ok 5 d a k
  have q2 := reckon_plain 5 d a k
  have HK := hide (ok_5 d a k)
  generalize (inB d 0 3 && inB a 0 3 && inB k 0 3) = b at q1 HK
  have B0 : Below w.heap.size w (w.alloc (.cells #[.int .i64 5, .int .i64 d, .int .i64 a, .int .i64 k] 38)) := (Below.refl _ _).alloc (Nat.le_refl _) _
  go_enter Tryz.func50, Tryz.ntmps50
  go_wp2_with fail
  refine (formOf_5 d a k _).mono ?_
  rintro e w1 ⟨rfl, hb⟩
  have B1 := (B0.trans (hb.mono B0.size)).drew
  have c0 : w1.cell? ⟨w.heap.size, 0, none⟩ = some (.int .i64 5) := cell_below hb (by simp)
  have c1 : w1.cell? ⟨w.heap.size, 1, none⟩ = some (.int .i64 d) := cell_below hb (by simp)
  have c2 : w1.cell? ⟨w.heap.size, 2, none⟩ = some (.int .i64 a) := cell_below hb (by simp)
  have c3 : w1.cell? ⟨w.heap.size, 3, none⟩ = some (.int .i64 k) := cell_below hb (by simp)
  clear hb B0
  go_wp2_with fail
  cases b with
  | false =>
    first | (go_region_with (go_at_call 132; refine (q1 _).mono ?_; rintro e w2 ⟨rfl, hb2⟩)) | fail
    all_goals
      clear c0 c1 c2 c3
      have B2 := B1.trans (hb2.mono B1.size)
      clear hb2 B1 q1 q2 m1 m2
      go_wp2
      go_ret
      exact ⟨ret_bool (by rw [HK.out]; rfl), B2⟩
  | true =>
    first | (go_region_with (first | (go_at_call 132; refine (q1 _).mono ?_; rintro e w2 ⟨rfl, hb2⟩; replace c0 := cell_below hb2 c0; replace c1 := cell_below hb2 c1; replace c2 := cell_below hb2 c2; replace c3 := cell_below hb2 c3) | (go_at_call 133; refine (q2 _).mono ?_; rintro e w3 ⟨rfl, hb3⟩; replace c0 := cell_below hb3 c0; replace c1 := cell_below hb3 c1; replace c2 := cell_below hb3 c2; replace c3 := cell_below hb3 c3))) | fail
    all_goals
      clear c0 c1 c2 c3
      have B2 := B1.trans (hb2.mono B1.size)
      have B3 := B2.trans (hb3.mono B2.size)
      clear hb2 hb3 B1 B2 q1 q2 m1 m2
      go_wp2
      go_ret
      refine ⟨ret_bool ?_, B3⟩
      rw [HK.out]
      clear HK B3
      first | rfl | (rw [Bool.eq_iff_iff]; simp; omega) | (rw [Bool.eq_iff_iff]; simp; done)
set_option maxHeartbeats 4000000 in
theorem insOk_6 (d a k : Int) (w : World) : Calls Tryz.prog 50 #[.agg #[.int .i64 6, .int .i64 d, .int .i64 a, .int .i64 k]] w fun e w' => e = .returned (.bool (okB 6 d a k)) ∧ Below w.heap.size w w' := by
  have m1 := reckon_ok_m 6 d a k
  have m2 := reckon_plain_m 6 d a k
  have q1 := reckon_ok 6 d a k
  have q2 := reckon_plain 6 d a k
  have HK := hide (ok_6 d a k)
  generalize (inB d 0 3 && inB a 0 3 && inB k 0 3) = b at q1 HK
  have B0 : Below w.heap.size w (w.alloc (.cells #[.int .i64 6, .int .i64 d, .int .i64 a, .int .i64 k] 38)) := (Below.refl _ _).alloc (Nat.le_refl _) _
  go_enter Tryz.func50, Tryz.ntmps50
  go_wp2_with fail
  refine (formOf_6 d a k _).mono ?_
  rintro e w1 ⟨rfl, hb⟩
  have B1 := (B0.trans (hb.mono B0.size)).drew
  have c0 : w1.cell? ⟨w.heap.size, 0, none⟩ = some (.int .i64 6) := cell_below hb (by simp)
  have c1 : w1.cell? ⟨w.heap.size, 1, none⟩ = some (.int .i64 d) := cell_below hb (by simp)
  have c2 : w1.cell? ⟨w.heap.size, 2, none⟩ = some (.int .i64 a) := cell_below hb (by simp)
  have c3 : w1.cell? ⟨w.heap.size, 3, none⟩ = some (.int .i64 k) := cell_below hb (by simp)
  clear hb B0
  go_wp2_with fail
  cases b with
  | false =>
    first | (go_region_with (go_at_call 132; refine (q1 _).mono ?_; rintro e w2 ⟨rfl, hb2⟩)) | fail
    all_goals
      clear c0 c1 c2 c3
      have B2 := B1.trans (hb2.mono B1.size)
      clear hb2 B1 q1 q2 m1 m2
      go_wp2
      go_ret
      exact ⟨ret_bool (by rw [HK.out]; rfl), B2⟩
  | true =>
    first | (go_region_with (first | (go_at_call 132; refine (q1 _).mono ?_; rintro e w2 ⟨rfl, hb2⟩; replace c0 := cell_below hb2 c0; replace c1 := cell_below hb2 c1; replace c2 := cell_below hb2 c2; replace c3 := cell_below hb2 c3) | (go_at_call 133; refine (q2 _).mono ?_; rintro e w3 ⟨rfl, hb3⟩; replace c0 := cell_below hb3 c0; replace c1 := cell_below hb3 c1; replace c2 := cell_below hb3 c2; replace c3 := cell_below hb3 c3))) | fail
    all_goals
      clear c0 c1 c2 c3
      have B2 := B1.trans (hb2.mono B1.size)
      have B3 := B2.trans (hb3.mono B2.size)
      clear hb2 hb3 B1 B2 q1 q2 m1 m2
      go_wp2
      go_ret
      refine ⟨ret_bool ?_, B3⟩
      rw [HK.out]
      clear HK B3
      first | rfl | (rw [Bool.eq_iff_iff]; simp; omega) | (rw [Bool.eq_iff_iff]; simp; done)
set_option maxHeartbeats 4000000 in
theorem insOk_7 (d a k : Int) (w : World) : Calls Tryz.prog 50 #[.agg #[.int .i64 7, .int .i64 d, .int .i64 a, .int .i64 k]] w fun e w' => e = .returned (.bool (okB 7 d a k)) ∧ Below w.heap.size w w' := by
  have m1 := reckon_ok_m 7 d a k
  have m2 := reckon_plain_m 7 d a k
  have q1 := reckon_ok 7 d a k
  have q2 := reckon_plain 7 d a k
  have HK := hide (ok_7 d a k)
  generalize (inB d 0 3 && inB a 0 3 && inB k 0 3) = b at q1 HK
  have B0 : Below w.heap.size w (w.alloc (.cells #[.int .i64 7, .int .i64 d, .int .i64 a, .int .i64 k] 38)) := (Below.refl _ _).alloc (Nat.le_refl _) _
  go_enter Tryz.func50, Tryz.ntmps50
  go_wp2_with fail
  refine (formOf_7 d a k _).mono ?_
  rintro e w1 ⟨rfl, hb⟩
  have B1 := (B0.trans (hb.mono B0.size)).drew
  have c0 : w1.cell? ⟨w.heap.size, 0, none⟩ = some (.int .i64 7) := cell_below hb (by simp)
  have c1 : w1.cell? ⟨w.heap.size, 1, none⟩ = some (.int .i64 d) := cell_below hb (by simp)
  have c2 : w1.cell? ⟨w.heap.size, 2, none⟩ = some (.int .i64 a) := cell_below hb (by simp)
  have c3 : w1.cell? ⟨w.heap.size, 3, none⟩ = some (.int .i64 k) := cell_below hb (by simp)
  clear hb B0
  go_wp2_with fail
  cases b with
  | false =>
    first | (go_region_with (go_at_call 132; refine (q1 _).mono ?_; rintro e w2 ⟨rfl, hb2⟩)) | fail
    all_goals
      clear c0 c1 c2 c3
      have B2 := B1.trans (hb2.mono B1.size)
      clear hb2 B1 q1 q2 m1 m2
      go_wp2
      go_ret
      exact ⟨ret_bool (by rw [HK.out]; rfl), B2⟩
  | true =>
    first | (go_region_with (first | (go_at_call 132; refine (q1 _).mono ?_; rintro e w2 ⟨rfl, hb2⟩; replace c0 := cell_below hb2 c0; replace c1 := cell_below hb2 c1; replace c2 := cell_below hb2 c2; replace c3 := cell_below hb2 c3) | (go_at_call 133; refine (q2 _).mono ?_; rintro e w3 ⟨rfl, hb3⟩; replace c0 := cell_below hb3 c0; replace c1 := cell_below hb3 c1; replace c2 := cell_below hb3 c2; replace c3 := cell_below hb3 c3))) | fail
    all_goals
      clear c0 c1 c2 c3
      have B2 := B1.trans (hb2.mono B1.size)
      have B3 := B2.trans (hb3.mono B2.size)
      clear hb2 hb3 B1 B2 q1 q2 m1 m2
      go_wp2
      go_ret
      refine ⟨ret_bool ?_, B3⟩
      rw [HK.out]
      clear HK B3
      first | rfl | (rw [Bool.eq_iff_iff]; simp; omega) | (rw [Bool.eq_iff_iff]; simp; done)
set_option maxHeartbeats 4000000 in
theorem insOk_8 (d a k : Int) (w : World) : Calls Tryz.prog 50 #[.agg #[.int .i64 8, .int .i64 d, .int .i64 a, .int .i64 k]] w fun e w' => e = .returned (.bool (okB 8 d a k)) ∧ Below w.heap.size w w' := by
  have m1 := shift_ok_m d a k
  have m2 := shift_plain_m d a k
  have q1 := shift_ok d a k
  have q2 := shift_plain d a k
  have HK := hide (ok_8 d a k)
  generalize (inB d 0 3 && inB a 0 3 && inB k 0 15) = b at q1 HK
  have B0 : Below w.heap.size w (w.alloc (.cells #[.int .i64 8, .int .i64 d, .int .i64 a, .int .i64 k] 38)) := (Below.refl _ _).alloc (Nat.le_refl _) _
  go_enter Tryz.func50, Tryz.ntmps50
  go_wp2_with fail
  refine (formOf_8 d a k _).mono ?_
  rintro e w1 ⟨rfl, hb⟩
  have B1 := (B0.trans (hb.mono B0.size)).drew
  have c0 : w1.cell? ⟨w.heap.size, 0, none⟩ = some (.int .i64 8) := cell_below hb (by simp)
  have c1 : w1.cell? ⟨w.heap.size, 1, none⟩ = some (.int .i64 d) := cell_below hb (by simp)
  have c2 : w1.cell? ⟨w.heap.size, 2, none⟩ = some (.int .i64 a) := cell_below hb (by simp)
  have c3 : w1.cell? ⟨w.heap.size, 3, none⟩ = some (.int .i64 k) := cell_below hb (by simp)
  clear hb B0
  go_wp2_with fail
  cases b with
  | false =>
    first | (go_region_with (go_at_call 134; refine (q1 _).mono ?_; rintro e w2 ⟨rfl, hb2⟩)) | fail
    all_goals
      clear c0 c1 c2 c3
      have B2 := B1.trans (hb2.mono B1.size)
      clear hb2 B1 q1 q2 m1 m2
      go_wp2
      go_ret
      exact ⟨ret_bool (by rw [HK.out]; rfl), B2⟩
  | true =>
    first | (go_region_with (first | (go_at_call 134; refine (q1 _).mono ?_; rintro e w2 ⟨rfl, hb2⟩; replace c0 := cell_below hb2 c0; replace c1 := cell_below hb2 c1; replace c2 := cell_below hb2 c2; replace c3 := cell_below hb2 c3) | (go_at_call 135; refine (q2 _).mono ?_; rintro e w3 ⟨rfl, hb3⟩; replace c0 := cell_below hb3 c0; replace c1 := cell_below hb3 c1; replace c2 := cell_below hb3 c2; replace c3 := cell_below hb3 c3))) | fail
    all_goals
      clear c0 c1 c2 c3
      have B2 := B1.trans (hb2.mono B1.size)
      have B3 := B2.trans (hb3.mono B2.size)
      clear hb2 hb3 B1 B2 q1 q2 m1 m2
      go_wp2
      go_ret
      refine ⟨ret_bool ?_, B3⟩
      rw [HK.out]
      clear HK B3
      first | rfl | (rw [Bool.eq_iff_iff]; simp; omega) | (rw [Bool.eq_iff_iff]; simp; done)
set_option maxHeartbeats 4000000 in
theorem insOk_9 (d a k : Int) (w : World) : Calls Tryz.prog 50 #[.agg #[.int .i64 9, .int .i64 d, .int .i64 a, .int .i64 k]] w fun e w' => e = .returned (.bool (okB 9 d a k)) ∧ Below w.heap.size w w' := by
  have m1 := reach_ok_m 9 d a k
  have m2 := reach_plain_m 9 d a k
  have q1 := reach_ok 9 d a k
  have q2 := reach_plain 9 d a k
  have HK := hide (ok_9 d a k)
  generalize (inB d 0 3 && inB a 0 3 && inB k 0 255) = b at q1 HK
  have B0 : Below w.heap.size w (w.alloc (.cells #[.int .i64 9, .int .i64 d, .int .i64 a, .int .i64 k] 38)) := (Below.refl _ _).alloc (Nat.le_refl _) _
  go_enter Tryz.func50, Tryz.ntmps50
  go_wp2_with fail
  refine (formOf_9 d a k _).mono ?_
  rintro e w1 ⟨rfl, hb⟩
  have B1 := (B0.trans (hb.mono B0.size)).drew
  have c0 : w1.cell? ⟨w.heap.size, 0, none⟩ = some (.int .i64 9) := cell_below hb (by simp)
  have c1 : w1.cell? ⟨w.heap.size, 1, none⟩ = some (.int .i64 d) := cell_below hb (by simp)
  have c2 : w1.cell? ⟨w.heap.size, 2, none⟩ = some (.int .i64 a) := cell_below hb (by simp)
  have c3 : w1.cell? ⟨w.heap.size, 3, none⟩ = some (.int .i64 k) := cell_below hb (by simp)
  clear hb B0
  go_wp2_with fail
  cases b with
  | false =>
    first | (go_region_with (go_at_call 136; refine (q1 _).mono ?_; rintro e w2 ⟨rfl, hb2⟩)) | fail
    all_goals
      clear c0 c1 c2 c3
      have B2 := B1.trans (hb2.mono B1.size)
      clear hb2 B1 q1 q2 m1 m2
      go_wp2
      go_ret
      exact ⟨ret_bool (by rw [HK.out]; rfl), B2⟩
  | true =>
    first | (go_region_with (first | (go_at_call 136; refine (q1 _).mono ?_; rintro e w2 ⟨rfl, hb2⟩; replace c0 := cell_below hb2 c0; replace c1 := cell_below hb2 c1; replace c2 := cell_below hb2 c2; replace c3 := cell_below hb2 c3) | (go_at_call 137; refine (q2 _).mono ?_; rintro e w3 ⟨rfl, hb3⟩; replace c0 := cell_below hb3 c0; replace c1 := cell_below hb3 c1; replace c2 := cell_below hb3 c2; replace c3 := cell_below hb3 c3))) | fail
    all_goals
      clear c0 c1 c2 c3
      have B2 := B1.trans (hb2.mono B1.size)
      have B3 := B2.trans (hb3.mono B2.size)
      clear hb2 hb3 B1 B2 q1 q2 m1 m2
      go_wp2
      go_ret
      refine ⟨ret_bool ?_, B3⟩
      rw [HK.out]
      clear HK B3
      first | rfl | (rw [Bool.eq_iff_iff]; simp; omega) | (rw [Bool.eq_iff_iff]; simp; done)
set_option maxHeartbeats 4000000 in
theorem insOk_10 (d a k : Int) (w : World) : Calls Tryz.prog 50 #[.agg #[.int .i64 10, .int .i64 d, .int .i64 a, .int .i64 k]] w fun e w' => e = .returned (.bool (okB 10 d a k)) ∧ Below w.heap.size w w' := by
  have m1 := reach_ok_m 10 d a k
  have m2 := reach_plain_m 10 d a k
  have q1 := reach_ok 10 d a k
  have q2 := reach_plain 10 d a k
  have HK := hide (ok_10 d a k)
  generalize (inB d 0 3 && inB a 0 3 && inB k 0 255) = b at q1 HK
  have B0 : Below w.heap.size w (w.alloc (.cells #[.int .i64 10, .int .i64 d, .int .i64 a, .int .i64 k] 38)) := (Below.refl _ _).alloc (Nat.le_refl _) _
  go_enter Tryz.func50, Tryz.ntmps50
  go_wp2_with fail
  refine (formOf_10 d a k _).mono ?_
  rintro e w1 ⟨rfl, hb⟩
  have B1 := (B0.trans (hb.mono B0.size)).drew
  have c0 : w1.cell? ⟨w.heap.size, 0, none⟩ = some (.int .i64 10) := cell_below hb (by simp)
  have c1 : w1.cell? ⟨w.heap.size, 1, none⟩ = some (.int .i64 d) := cell_below hb (by simp)
  have c2 : w1.cell? ⟨w.heap.size, 2, none⟩ = some (.int .i64 a) := cell_below hb (by simp)
  have c3 : w1.cell? ⟨w.heap.size, 3, none⟩ = some (.int .i64 k) := cell_below hb (by simp)
  clear hb B0
  go_wp2_with fail
  cases b with
  | false =>
    first | (go_region_with (go_at_call 136; refine (q1 _).mono ?_; rintro e w2 ⟨rfl, hb2⟩)) | fail
    all_goals
      clear c0 c1 c2 c3
      have B2 := B1.trans (hb2.mono B1.size)
      clear hb2 B1 q1 q2 m1 m2
      go_wp2
      go_ret
      exact ⟨ret_bool (by rw [HK.out]; rfl), B2⟩
  | true =>
    first | (go_region_with (first | (go_at_call 136; refine (q1 _).mono ?_; rintro e w2 ⟨rfl, hb2⟩; replace c0 := cell_below hb2 c0; replace c1 := cell_below hb2 c1; replace c2 := cell_below hb2 c2; replace c3 := cell_below hb2 c3) | (go_at_call 137; refine (q2 _).mono ?_; rintro e w3 ⟨rfl, hb3⟩; replace c0 := cell_below hb3 c0; replace c1 := cell_below hb3 c1; replace c2 := cell_below hb3 c2; replace c3 := cell_below hb3 c3))) | fail
    all_goals
      clear c0 c1 c2 c3
      have B2 := B1.trans (hb2.mono B1.size)
      have B3 := B2.trans (hb3.mono B2.size)
      clear hb2 hb3 B1 B2 q1 q2 m1 m2
      go_wp2
      go_ret
      refine ⟨ret_bool ?_, B3⟩
      rw [HK.out]
      clear HK B3
      first | rfl | (rw [Bool.eq_iff_iff]; simp; omega) | (rw [Bool.eq_iff_iff]; simp; done)
set_option maxHeartbeats 4000000 in
theorem insOk_11 (d a k : Int) (w : World) : Calls Tryz.prog 50 #[.agg #[.int .i64 11, .int .i64 d, .int .i64 a, .int .i64 k]] w fun e w' => e = .returned (.bool (okB 11 d a k)) ∧ Below w.heap.size w w' := by
  have m1 := ask_ok_m 11 d a k
  have m2 := ask_plain_m 11 d a k
  have q1 := ask_ok 11 d a k
  have q2 := ask_plain 11 d a k
  have HK := hide (ok_11 d a k)
  generalize (inB d 0 3 && inB a 0 3 && inB k 0 255) = b at q1 HK
  have B0 : Below w.heap.size w (w.alloc (.cells #[.int .i64 11, .int .i64 d, .int .i64 a, .int .i64 k] 38)) := (Below.refl _ _).alloc (Nat.le_refl _) _
  go_enter Tryz.func50, Tryz.ntmps50
  go_wp2_with fail
  refine (formOf_11 d a k _).mono ?_
  rintro e w1 ⟨rfl, hb⟩
  have B1 := (B0.trans (hb.mono B0.size)).drew
  have c0 : w1.cell? ⟨w.heap.size, 0, none⟩ = some (.int .i64 11) := cell_below hb (by simp)
  have c1 : w1.cell? ⟨w.heap.size, 1, none⟩ = some (.int .i64 d) := cell_below hb (by simp)
  have c2 : w1.cell? ⟨w.heap.size, 2, none⟩ = some (.int .i64 a) := cell_below hb (by simp)
  have c3 : w1.cell? ⟨w.heap.size, 3, none⟩ = some (.int .i64 k) := cell_below hb (by simp)
  clear hb B0
  go_wp2_with fail
  cases b with
  | false =>
    first | (go_region_with (go_at_call 138; refine (q1 _).mono ?_; rintro e w2 ⟨rfl, hb2⟩)) | fail
    all_goals
      clear c0 c1 c2 c3
      have B2 := B1.trans (hb2.mono B1.size)
      clear hb2 B1 q1 q2 m1 m2
      go_wp2
      go_ret
      exact ⟨ret_bool (by rw [HK.out]; rfl), B2⟩
  | true =>
    first | (go_region_with (first | (go_at_call 138; refine (q1 _).mono ?_; rintro e w2 ⟨rfl, hb2⟩; replace c0 := cell_below hb2 c0; replace c1 := cell_below hb2 c1; replace c2 := cell_below hb2 c2; replace c3 := cell_below hb2 c3) | (go_at_call 139; refine (q2 _).mono ?_; rintro e w3 ⟨rfl, hb3⟩; replace c0 := cell_below hb3 c0; replace c1 := cell_below hb3 c1; replace c2 := cell_below hb3 c2; replace c3 := cell_below hb3 c3))) | fail
    all_goals
      clear c0 c1 c2 c3
      have B2 := B1.trans (hb2.mono B1.size)
      have B3 := B2.trans (hb3.mono B2.size)
      clear hb2 hb3 B1 B2 q1 q2 m1 m2
      go_wp2
      go_ret
      refine ⟨ret_bool ?_, B3⟩
      rw [HK.out]
      clear HK B3
      first | rfl | (rw [Bool.eq_iff_iff]; simp; omega) | (rw [Bool.eq_iff_iff]; simp; done)
set_option maxHeartbeats 4000000 in
theorem insOk_12 (d a k : Int) (w : World) : Calls Tryz.prog 50 #[.agg #[.int .i64 12, .int .i64 d, .int .i64 a, .int .i64 k]] w fun e w' => e = .returned (.bool (okB 12 d a k)) ∧ Below w.heap.size w w' := by
  have m1 := ask_ok_m 12 d a k
  have m2 := ask_plain_m 12 d a k
  have q1 := ask_ok 12 d a k
  have q2 := ask_plain 12 d a k
  have HK := hide (ok_12 d a k)
  generalize (inB d 0 3 && inB a 0 3 && inB k 0 255) = b at q1 HK
  have B0 : Below w.heap.size w (w.alloc (.cells #[.int .i64 12, .int .i64 d, .int .i64 a, .int .i64 k] 38)) := (Below.refl _ _).alloc (Nat.le_refl _) _
  go_enter Tryz.func50, Tryz.ntmps50
  go_wp2_with fail
  refine (formOf_12 d a k _).mono ?_
  rintro e w1 ⟨rfl, hb⟩
  have B1 := (B0.trans (hb.mono B0.size)).drew
  have c0 : w1.cell? ⟨w.heap.size, 0, none⟩ = some (.int .i64 12) := cell_below hb (by simp)
  have c1 : w1.cell? ⟨w.heap.size, 1, none⟩ = some (.int .i64 d) := cell_below hb (by simp)
  have c2 : w1.cell? ⟨w.heap.size, 2, none⟩ = some (.int .i64 a) := cell_below hb (by simp)
  have c3 : w1.cell? ⟨w.heap.size, 3, none⟩ = some (.int .i64 k) := cell_below hb (by simp)
  clear hb B0
  go_wp2_with fail
  cases b with
  | false =>
    first | (go_region_with (go_at_call 138; refine (q1 _).mono ?_; rintro e w2 ⟨rfl, hb2⟩)) | fail
    all_goals
      clear c0 c1 c2 c3
      have B2 := B1.trans (hb2.mono B1.size)
      clear hb2 B1 q1 q2 m1 m2
      go_wp2
      go_ret
      exact ⟨ret_bool (by rw [HK.out]; rfl), B2⟩
  | true =>
    first | (go_region_with (first | (go_at_call 138; refine (q1 _).mono ?_; rintro e w2 ⟨rfl, hb2⟩; replace c0 := cell_below hb2 c0; replace c1 := cell_below hb2 c1; replace c2 := cell_below hb2 c2; replace c3 := cell_below hb2 c3) | (go_at_call 139; refine (q2 _).mono ?_; rintro e w3 ⟨rfl, hb3⟩; replace c0 := cell_below hb3 c0; replace c1 := cell_below hb3 c1; replace c2 := cell_below hb3 c2; replace c3 := cell_below hb3 c3))) | fail
    all_goals
      clear c0 c1 c2 c3
      have B2 := B1.trans (hb2.mono B1.size)
      have B3 := B2.trans (hb3.mono B2.size)
      clear hb2 hb3 B1 B2 q1 q2 m1 m2
      go_wp2
      go_ret
      refine ⟨ret_bool ?_, B3⟩
      rw [HK.out]
      clear HK B3
      first | rfl | (rw [Bool.eq_iff_iff]; simp; omega) | (rw [Bool.eq_iff_iff]; simp; done)
end Go.Proofs.YtnhpmbhphbphaaaGreat.InsI
namespace Go.Proofs.YtnhpmbhphbphaaaGreat.InsI
open Go.ChangeShapes Go.WideShapes Go.ChangeAt Go.RowKit Ins
set_option maxHeartbeats 4000000 in
theorem insOk_13 (d a k : Int) (w : World) : Calls Tryz.prog 50 #[.agg #[.int .i64 13, .int .i64 d, .int .i64 a, .int .i64 k]] w fun e w' => e = .returned (.bool (okB 13 d a k)) ∧ Below w.heap.size w w' := by
  have m1 := go_ok_m a
  have m2 := go_plain_m a
  have q1 := go_ok a
  have q2 := go_plain a
  have HK := hide (ok_13 d a k)
  generalize (inB a 0 3) = b at q1 HK
  have B0 : Below w.heap.size w (w.alloc (.cells #[.int .i64 13, .int .i64 d, .int .i64 a, .int .i64 k] 38)) := (Below.refl _ _).alloc (Nat.le_refl _) _
  go_enter Tryz.func50, Tryz.ntmps50
  go_wp2_with fail
  refine (formOf_13 d a k _).mono ?_
  rintro e w1 ⟨rfl, hb⟩
  have B1 := (B0.trans (hb.mono B0.size)).drew
  have c0 : w1.cell? ⟨w.heap.size, 0, none⟩ = some (.int .i64 13) := cell_below hb (by simp)
  have c1 : w1.cell? ⟨w.heap.size, 1, none⟩ = some (.int .i64 d) := cell_below hb (by simp)
  have c2 : w1.cell? ⟨w.heap.size, 2, none⟩ = some (.int .i64 a) := cell_below hb (by simp)
  have c3 : w1.cell? ⟨w.heap.size, 3, none⟩ = some (.int .i64 k) := cell_below hb (by simp)
  clear hb B0
  go_wp2_with fail
  cases b with
  | false =>
    first | (go_region_with (go_at_call 140; refine (q1 _).mono ?_; rintro e w2 ⟨rfl, hb2⟩)) | fail
    all_goals
      clear c0 c1 c2 c3
      have B2 := B1.trans (hb2.mono B1.size)
      clear hb2 B1 q1 q2 m1 m2
      go_wp2
      go_ret
      exact ⟨ret_bool (by rw [HK.out]; rfl), B2⟩
  | true =>
    by_cases e_d : d = 0
    · subst e_d
      by_cases e_k : k = 0
      · subst e_k
        first | (go_region_with (first | (go_at_call 140; refine (q1 _).mono ?_; rintro e w2 ⟨rfl, hb2⟩; replace c0 := cell_below hb2 c0; replace c1 := cell_below hb2 c1; replace c2 := cell_below hb2 c2; replace c3 := cell_below hb2 c3) | (go_at_call 141; refine (q2 _).mono ?_; rintro e w3 ⟨rfl, hb3⟩; replace c0 := cell_below hb3 c0; replace c1 := cell_below hb3 c1; replace c2 := cell_below hb3 c2; replace c3 := cell_below hb3 c3))) | fail
        all_goals
          clear c0 c1 c2 c3
          have B2 := B1.trans (hb2.mono B1.size)
          have B3 := B2.trans (hb3.mono B2.size)
          clear hb2 hb3 B1 B2 q1 q2 m1 m2
          go_wp2
          go_ret
          refine ⟨ret_bool ?_, B3⟩
          rw [HK.out]
          clear HK B3
          first | rfl | (rw [Bool.eq_iff_iff]; simp; omega) | (rw [Bool.eq_iff_iff]; simp; done)
      · have n_k : ((0 : Int) == k) = false := beq_eq_false_iff_ne.2 (Ne.symm e_k)
        first | (go_region_with (first | (go_at_call 140; refine (q1 _).mono ?_; rintro e w2 ⟨rfl, hb2⟩; replace c0 := cell_below hb2 c0; replace c1 := cell_below hb2 c1; replace c2 := cell_below hb2 c2; replace c3 := cell_below hb2 c3) | (go_at_call 141; refine (q2 _).mono ?_; rintro e w3 ⟨rfl, hb3⟩; replace c0 := cell_below hb3 c0; replace c1 := cell_below hb3 c1; replace c2 := cell_below hb3 c2; replace c3 := cell_below hb3 c3))) | fail
        all_goals
          clear c0 c1 c2 c3
          have B2 := B1.trans (hb2.mono B1.size)
          have B3 := B2.trans (hb3.mono B2.size)
          clear hb2 hb3 B1 B2 q1 q2 m1 m2
          go_wp2
          go_ret
          refine ⟨ret_bool ?_, B3⟩
          rw [HK.out]
          clear HK B3
          first | rfl | (rw [Bool.eq_iff_iff]; simp; omega) | (rw [Bool.eq_iff_iff]; simp; done)
    · have n_d : ((0 : Int) == d) = false := beq_eq_false_iff_ne.2 (Ne.symm e_d)
      first | (go_region_with (first | (go_at_call 140; refine (q1 _).mono ?_; rintro e w2 ⟨rfl, hb2⟩; replace c0 := cell_below hb2 c0; replace c1 := cell_below hb2 c1; replace c2 := cell_below hb2 c2; replace c3 := cell_below hb2 c3) | (go_at_call 141; refine (q2 _).mono ?_; rintro e w3 ⟨rfl, hb3⟩; replace c0 := cell_below hb3 c0; replace c1 := cell_below hb3 c1; replace c2 := cell_below hb3 c2; replace c3 := cell_below hb3 c3))) | fail
      all_goals
        clear c0 c1 c2 c3
        have B2 := B1.trans (hb2.mono B1.size)
        have B3 := B2.trans (hb3.mono B2.size)
        clear hb2 hb3 B1 B2 q1 q2 m1 m2
        go_wp2
        go_ret
        refine ⟨ret_bool ?_, B3⟩
        rw [HK.out]
        clear HK B3
        first | rfl | (rw [Bool.eq_iff_iff]; simp; omega) | (rw [Bool.eq_iff_iff]; simp; done)
set_option maxHeartbeats 4000000 in
theorem insOk_14 (d a k : Int) (w : World) : Calls Tryz.prog 50 #[.agg #[.int .i64 14, .int .i64 d, .int .i64 a, .int .i64 k]] w fun e w' => e = .returned (.bool (okB 14 d a k)) ∧ Below w.heap.size w w' := by
  have m1 := pass_ok_m 14 d
  have m2 := pass_plain_m 14 d
  have q1 := pass_ok 14 d
  have q2 := pass_plain 14 d
  have HK := hide (ok_14 d a k)
  generalize (inB d 0 3) = b at q1 HK
  have B0 : Below w.heap.size w (w.alloc (.cells #[.int .i64 14, .int .i64 d, .int .i64 a, .int .i64 k] 38)) := (Below.refl _ _).alloc (Nat.le_refl _) _
  go_enter Tryz.func50, Tryz.ntmps50
  go_wp2_with fail
  refine (formOf_14 d a k _).mono ?_
  rintro e w1 ⟨rfl, hb⟩
  have B1 := (B0.trans (hb.mono B0.size)).drew
  have c0 : w1.cell? ⟨w.heap.size, 0, none⟩ = some (.int .i64 14) := cell_below hb (by simp)
  have c1 : w1.cell? ⟨w.heap.size, 1, none⟩ = some (.int .i64 d) := cell_below hb (by simp)
  have c2 : w1.cell? ⟨w.heap.size, 2, none⟩ = some (.int .i64 a) := cell_below hb (by simp)
  have c3 : w1.cell? ⟨w.heap.size, 3, none⟩ = some (.int .i64 k) := cell_below hb (by simp)
  clear hb B0
  go_wp2_with fail
  cases b with
  | false =>
    first | (go_region_with (go_at_call 142; refine (q1 _).mono ?_; rintro e w2 ⟨rfl, hb2⟩)) | fail
    all_goals
      clear c0 c1 c2 c3
      have B2 := B1.trans (hb2.mono B1.size)
      clear hb2 B1 q1 q2 m1 m2
      go_wp2
      go_ret
      exact ⟨ret_bool (by rw [HK.out]; rfl), B2⟩
  | true =>
    by_cases e_a : a = 0
    · subst e_a
      by_cases e_k : k = 0
      · subst e_k
        first | (go_region_with (first | (go_at_call 142; refine (q1 _).mono ?_; rintro e w2 ⟨rfl, hb2⟩; replace c0 := cell_below hb2 c0; replace c1 := cell_below hb2 c1; replace c2 := cell_below hb2 c2; replace c3 := cell_below hb2 c3) | (go_at_call 143; refine (q2 _).mono ?_; rintro e w3 ⟨rfl, hb3⟩; replace c0 := cell_below hb3 c0; replace c1 := cell_below hb3 c1; replace c2 := cell_below hb3 c2; replace c3 := cell_below hb3 c3))) | fail
        all_goals
          clear c0 c1 c2 c3
          have B2 := B1.trans (hb2.mono B1.size)
          have B3 := B2.trans (hb3.mono B2.size)
          clear hb2 hb3 B1 B2 q1 q2 m1 m2
          go_wp2
          go_ret
          refine ⟨ret_bool ?_, B3⟩
          rw [HK.out]
          clear HK B3
          first | rfl | (rw [Bool.eq_iff_iff]; simp; omega) | (rw [Bool.eq_iff_iff]; simp; done)
      · have n_k : ((0 : Int) == k) = false := beq_eq_false_iff_ne.2 (Ne.symm e_k)
        first | (go_region_with (first | (go_at_call 142; refine (q1 _).mono ?_; rintro e w2 ⟨rfl, hb2⟩; replace c0 := cell_below hb2 c0; replace c1 := cell_below hb2 c1; replace c2 := cell_below hb2 c2; replace c3 := cell_below hb2 c3) | (go_at_call 143; refine (q2 _).mono ?_; rintro e w3 ⟨rfl, hb3⟩; replace c0 := cell_below hb3 c0; replace c1 := cell_below hb3 c1; replace c2 := cell_below hb3 c2; replace c3 := cell_below hb3 c3))) | fail
        all_goals
          clear c0 c1 c2 c3
          have B2 := B1.trans (hb2.mono B1.size)
          have B3 := B2.trans (hb3.mono B2.size)
          clear hb2 hb3 B1 B2 q1 q2 m1 m2
          go_wp2
          go_ret
          refine ⟨ret_bool ?_, B3⟩
          rw [HK.out]
          clear HK B3
          first | rfl | (rw [Bool.eq_iff_iff]; simp; omega) | (rw [Bool.eq_iff_iff]; simp; done)
    · have n_a : ((0 : Int) == a) = false := beq_eq_false_iff_ne.2 (Ne.symm e_a)
      first | (go_region_with (first | (go_at_call 142; refine (q1 _).mono ?_; rintro e w2 ⟨rfl, hb2⟩; replace c0 := cell_below hb2 c0; replace c1 := cell_below hb2 c1; replace c2 := cell_below hb2 c2; replace c3 := cell_below hb2 c3) | (go_at_call 143; refine (q2 _).mono ?_; rintro e w3 ⟨rfl, hb3⟩; replace c0 := cell_below hb3 c0; replace c1 := cell_below hb3 c1; replace c2 := cell_below hb3 c2; replace c3 := cell_below hb3 c3))) | fail
      all_goals
        clear c0 c1 c2 c3
        have B2 := B1.trans (hb2.mono B1.size)
        have B3 := B2.trans (hb3.mono B2.size)
        clear hb2 hb3 B1 B2 q1 q2 m1 m2
        go_wp2
        go_ret
        refine ⟨ret_bool ?_, B3⟩
        rw [HK.out]
        clear HK B3
        first | rfl | (rw [Bool.eq_iff_iff]; simp; omega) | (rw [Bool.eq_iff_iff]; simp; done)
set_option maxHeartbeats 4000000 in
theorem insOk_15 (d a k : Int) (w : World) : Calls Tryz.prog 50 #[.agg #[.int .i64 15, .int .i64 d, .int .i64 a, .int .i64 k]] w fun e w' => e = .returned (.bool (okB 15 d a k)) ∧ Below w.heap.size w w' := by
  have m1 := pass_ok_m 15 d
  have m2 := pass_plain_m 15 d
  have q1 := pass_ok 15 d
  have q2 := pass_plain 15 d
  have HK := hide (ok_15 d a k)
  generalize (inB d 0 3) = b at q1 HK
  have B0 : Below w.heap.size w (w.alloc (.cells #[.int .i64 15, .int .i64 d, .int .i64 a, .int .i64 k] 38)) := (Below.refl _ _).alloc (Nat.le_refl _) _
  go_enter Tryz.func50, Tryz.ntmps50
  go_wp2_with fail
  refine (formOf_15 d a k _).mono ?_
  rintro e w1 ⟨rfl, hb⟩
  have B1 := (B0.trans (hb.mono B0.size)).drew
  have c0 : w1.cell? ⟨w.heap.size, 0, none⟩ = some (.int .i64 15) := cell_below hb (by simp)
  have c1 : w1.cell? ⟨w.heap.size, 1, none⟩ = some (.int .i64 d) := cell_below hb (by simp)
  have c2 : w1.cell? ⟨w.heap.size, 2, none⟩ = some (.int .i64 a) := cell_below hb (by simp)
  have c3 : w1.cell? ⟨w.heap.size, 3, none⟩ = some (.int .i64 k) := cell_below hb (by simp)
  clear hb B0
  go_wp2_with fail
  cases b with
  | false =>
    first | (go_region_with (go_at_call 142; refine (q1 _).mono ?_; rintro e w2 ⟨rfl, hb2⟩)) | fail
    all_goals
      clear c0 c1 c2 c3
      have B2 := B1.trans (hb2.mono B1.size)
      clear hb2 B1 q1 q2 m1 m2
      go_wp2
      go_ret
      exact ⟨ret_bool (by rw [HK.out]; rfl), B2⟩
  | true =>
    by_cases e_a : a = 0
    · subst e_a
      by_cases e_k : k = 0
      · subst e_k
        first | (go_region_with (first | (go_at_call 142; refine (q1 _).mono ?_; rintro e w2 ⟨rfl, hb2⟩; replace c0 := cell_below hb2 c0; replace c1 := cell_below hb2 c1; replace c2 := cell_below hb2 c2; replace c3 := cell_below hb2 c3) | (go_at_call 143; refine (q2 _).mono ?_; rintro e w3 ⟨rfl, hb3⟩; replace c0 := cell_below hb3 c0; replace c1 := cell_below hb3 c1; replace c2 := cell_below hb3 c2; replace c3 := cell_below hb3 c3))) | fail
        all_goals
          clear c0 c1 c2 c3
          have B2 := B1.trans (hb2.mono B1.size)
          have B3 := B2.trans (hb3.mono B2.size)
          clear hb2 hb3 B1 B2 q1 q2 m1 m2
          go_wp2
          go_ret
          refine ⟨ret_bool ?_, B3⟩
          rw [HK.out]
          clear HK B3
          first | rfl | (rw [Bool.eq_iff_iff]; simp; omega) | (rw [Bool.eq_iff_iff]; simp; done)
      · have n_k : ((0 : Int) == k) = false := beq_eq_false_iff_ne.2 (Ne.symm e_k)
        first | (go_region_with (first | (go_at_call 142; refine (q1 _).mono ?_; rintro e w2 ⟨rfl, hb2⟩; replace c0 := cell_below hb2 c0; replace c1 := cell_below hb2 c1; replace c2 := cell_below hb2 c2; replace c3 := cell_below hb2 c3) | (go_at_call 143; refine (q2 _).mono ?_; rintro e w3 ⟨rfl, hb3⟩; replace c0 := cell_below hb3 c0; replace c1 := cell_below hb3 c1; replace c2 := cell_below hb3 c2; replace c3 := cell_below hb3 c3))) | fail
        all_goals
          clear c0 c1 c2 c3
          have B2 := B1.trans (hb2.mono B1.size)
          have B3 := B2.trans (hb3.mono B2.size)
          clear hb2 hb3 B1 B2 q1 q2 m1 m2
          go_wp2
          go_ret
          refine ⟨ret_bool ?_, B3⟩
          rw [HK.out]
          clear HK B3
          first | rfl | (rw [Bool.eq_iff_iff]; simp; omega) | (rw [Bool.eq_iff_iff]; simp; done)
    · have n_a : ((0 : Int) == a) = false := beq_eq_false_iff_ne.2 (Ne.symm e_a)
      first | (go_region_with (first | (go_at_call 142; refine (q1 _).mono ?_; rintro e w2 ⟨rfl, hb2⟩; replace c0 := cell_below hb2 c0; replace c1 := cell_below hb2 c1; replace c2 := cell_below hb2 c2; replace c3 := cell_below hb2 c3) | (go_at_call 143; refine (q2 _).mono ?_; rintro e w3 ⟨rfl, hb3⟩; replace c0 := cell_below hb3 c0; replace c1 := cell_below hb3 c1; replace c2 := cell_below hb3 c2; replace c3 := cell_below hb3 c3))) | fail
      all_goals
        clear c0 c1 c2 c3
        have B2 := B1.trans (hb2.mono B1.size)
        have B3 := B2.trans (hb3.mono B2.size)
        clear hb2 hb3 B1 B2 q1 q2 m1 m2
        go_wp2
        go_ret
        refine ⟨ret_bool ?_, B3⟩
        rw [HK.out]
        clear HK B3
        first | rfl | (rw [Bool.eq_iff_iff]; simp; omega) | (rw [Bool.eq_iff_iff]; simp; done)
set_option maxHeartbeats 4000000 in
theorem insOk_no (op d a k : Int) (w : World) (h : ¬ (0 ≤ op ∧ op ≤ 15)) : Calls Tryz.prog 50 #[.agg #[.int .i64 op, .int .i64 d, .int .i64 a, .int .i64 k]] w fun e w' => e = .returned (.bool (okB op d a k)) ∧ Below w.heap.size w w' := by
  have m1 := no_ok_m
  have q1 := no_ok
  have HK : Hid (okB op d a k = false) := show _ = _ by
    have : inB op 0 15 = false := decide_eq_false h
    unfold okB
    rw [this]
    rfl
  have B0 : Below w.heap.size w (w.alloc (.cells #[.int .i64 op, .int .i64 d, .int .i64 a, .int .i64 k] 38)) := (Below.refl _ _).alloc (Nat.le_refl _) _
  go_enter Tryz.func50, Tryz.ntmps50
  go_wp2_with fail
  refine (formOf_no op d a k _ h).mono ?_
  rintro e w1 ⟨rfl, hb⟩
  have B1 := (B0.trans (hb.mono B0.size)).drew
  clear hb B0 h
  go_wp2_with fail
  first | (go_region_with (go_at_call 144; refine (q1 _).mono ?_; rintro e w2 ⟨rfl, hb2⟩)) | fail
  all_goals
    have B2 := B1.trans (hb2.mono B1.size)
    clear hb2 B1 q1 m1
    go_wp2
    go_ret
    exact ⟨ret_bool (by rw [HK.out]), B2⟩
end Go.Proofs.YtnhpmbhphbphaaaGreat.InsI
namespace Go.Proofs.YtnhpmbhphbphaaaGreat.InsI
open Go.ChangeShapes Go.WideShapes Go.ChangeAt Go.RowKit Ins
theorem insOk (op d a k : Int) (w : World) : Calls Tryz.prog 50 #[.agg #[.int .i64 op, .int .i64 d, .int .i64 a, .int .i64 k]] w fun e w' => e = .returned (.bool (okB op d a k)) ∧ Below w.heap.size w w' := by
  by_cases h : 0 ≤ op ∧ op ≤ 15
  · have h : op = 0 ∨ op = 1 ∨ op = 2 ∨ op = 3 ∨ op = 4 ∨ op = 5 ∨ op = 6 ∨ op = 7 ∨ op = 8 ∨ op = 9 ∨ op = 10 ∨ op = 11 ∨ op = 12 ∨ op = 13 ∨ op = 14 ∨ op = 15 := by omega
    rcases h with rfl | rfl | rfl | rfl | rfl | rfl | rfl | rfl | rfl | rfl | rfl | rfl | rfl | rfl | rfl | rfl
    · exact insOk_0 d a k w
    · exact insOk_1 d a k w
    · exact insOk_2 d a k w
    · exact insOk_3 d a k w
    · exact insOk_4 d a k w
    · exact insOk_5 d a k w
    · exact insOk_6 d a k w
    · exact insOk_7 d a k w
    · exact insOk_8 d a k w
    · exact insOk_9 d a k w
    · exact insOk_10 d a k w
    · exact insOk_11 d a k w
    · exact insOk_12 d a k w
    · exact insOk_13 d a k w
    · exact insOk_14 d a k w
    · exact insOk_15 d a k w
  · exact insOk_no op d a k w h
set_option maxHeartbeats 1000000 in
theorem insPut (op d a k : Int) (w : World) : Calls Tryz.prog 27 #[.agg #[.int .i64 op, .int .i64 d, .int .i64 a, .int .i64 k]] w fun e w' => e = .returned (.int .i64 (putN op d a k)) ∧ Below w.heap.size w w' := by
  have B0 : Below w.heap.size w (w.alloc (.cells #[.int .i64 op, .int .i64 d, .int .i64 a, .int .i64 k] 38)) := (Below.refl _ _).alloc (Nat.le_refl _) _
  go_enter Tryz.func27, Tryz.ntmps27
  go_wp2_with fail
  refine (insOk op d a k _).mono ?_
  rintro e w1 ⟨rfl, hb⟩
  have B1 := B0.trans (hb.mono B0.size)
  cases h : okB op d a k with
  | false =>
    go_wp2
    go_ret
    exact ⟨ret_int (by simp [putN, h]), B1⟩
  | true =>
    have H : Hid (putN op d a k = op * 4096 + d * 1024 + a * 256 + k) := show _ = _ by simp [putN, h]
    obtain ⟨o0, o1, d0, d1, a0, a1, k0, k1, _⟩ := okB_bd h
    have c0 : w1.cell? ⟨w.heap.size, 0, none⟩ = some (.int .i64 op) := cell_below hb (by simp)
    have c1 : w1.cell? ⟨w.heap.size, 1, none⟩ = some (.int .i64 d) := cell_below hb (by simp)
    have c2 : w1.cell? ⟨w.heap.size, 2, none⟩ = some (.int .i64 a) := cell_below hb (by simp)
    have c3 : w1.cell? ⟨w.heap.size, 3, none⟩ = some (.int .i64 k) := cell_below hb (by simp)
    clear h hb B0
    go_wp2
    go_ret
    exact ⟨ret_int (by rw [H.out]), B1⟩

theorem implOk_t (n : Int) (w : World) (h0 : 0 ≤ n) (h1 : n < 65536) : Calls Tryz.prog 41 #[.int .i64 n] w fun e w' => e = .returned (.bool true) ∧ w' = w := by
  go_enter Tryz.func41, Tryz.ntmps41
  go_wp2
  go_ret
  exact ⟨rfl, rfl⟩
theorem implOk_f (n : Int) (w : World) (h : ¬ (0 ≤ n ∧ n < 65536)) : Calls Tryz.prog 41 #[.int .i64 n] w fun e w' => e = .returned (.bool false) ∧ w' = w := by
  by_cases h0 : 0 ≤ n
  · have h1 : ¬ n < 65536 := by omega
    go_enter Tryz.func41, Tryz.ntmps41
    go_wp2
    go_ret
    exact ⟨rfl, rfl⟩
  · go_enter Tryz.func41, Tryz.ntmps41
    go_wp2
    go_ret
    exact ⟨rfl, rfl⟩
set_option maxHeartbeats 1000000 in
theorem insTake (n : Int) (w : World) : Calls Tryz.prog 25 #[.int .i64 n] w fun e w' => e = .returned (.tuple #[.agg (takeC n), .bool (takeB n)]) ∧ Below w.heap.size w w' := by
  by_cases hn : 0 ≤ n ∧ n < 65536
  · go_enter Tryz.func25, Tryz.ntmps25
    go_wp2_with fail
    refine (implOk_t n _ hn.1 hn.2).mono ?_
    rintro e w1 ⟨rfl, rfl⟩
    go_wp2_with fail
    refine (insOk (n / 4096) (n / 1024 % 4) (n / 256 % 4) (n % 256) _).mono ?_
    rintro e w1 ⟨rfl, hb⟩
    have B0 : Below w.heap.size w w1 := (((Below.refl _ _).alloc (Nat.le_refl _) _).alloc (by simp) _).trans (hb.mono (by simp; omega))
    have hz : w.heap.size + 1 < w1.heap.size := by have := hb.size; simp at this; omega
    have c0 : w1.cell? ⟨w.heap.size, 0, none⟩ = some (.int .i64 0) := cell_below hb (by simp)
    have c1 : w1.cell? ⟨w.heap.size, 1, none⟩ = some (.int .i64 0) := cell_below hb (by simp)
    have c2 : w1.cell? ⟨w.heap.size, 2, none⟩ = some (.int .i64 0) := cell_below hb (by simp)
    have c3 : w1.cell? ⟨w.heap.size, 3, none⟩ = some (.int .i64 0) := cell_below hb (by simp)
    have f0 : w1.frozen? ⟨w.heap.size, 0, none⟩ = false := (hb.frozen (p := ⟨w.heap.size, 0, none⟩) (by simp; omega)).trans (by simp)
    have f1 : w1.frozen? ⟨w.heap.size, 1, none⟩ = false := (hb.frozen (p := ⟨w.heap.size, 1, none⟩) (by simp; omega)).trans (by simp)
    have f2 : w1.frozen? ⟨w.heap.size, 2, none⟩ = false := (hb.frozen (p := ⟨w.heap.size, 2, none⟩) (by simp; omega)).trans (by simp)
    have f3 : w1.frozen? ⟨w.heap.size, 3, none⟩ = false := (hb.frozen (p := ⟨w.heap.size, 3, none⟩) (by simp; omega)).trans (by simp)
    have i0 : w1.cell? ⟨w.heap.size + 1, 0, none⟩ = some (.int .i64 (n / 4096)) := cell_below hb (by simp)
    have i1 : w1.cell? ⟨w.heap.size + 1, 1, none⟩ = some (.int .i64 (n / 1024 % 4)) := cell_below hb (by simp)
    have i2 : w1.cell? ⟨w.heap.size + 1, 2, none⟩ = some (.int .i64 (n / 256 % 4)) := cell_below hb (by simp)
    have i3 : w1.cell? ⟨w.heap.size + 1, 3, none⟩ = some (.int .i64 (n % 256)) := cell_below hb (by simp)
    cases hk : okB (n / 4096) (n / 1024 % 4) (n / 256 % 4) (n % 256) with
    | false =>
      have hB : takeB n = false := by unfold takeB; rw [hk]; simp
      have HC : Hid (takeC n = #[.int .i64 0, .int .i64 0, .int .i64 0, .int .i64 0]) := show _ = _ by unfold takeC; rw [hB]; rfl
      have HB : Hid (takeB n = false) := hB
      clear hB hk hb
      go_wp2
      exact bodyPost_ret (v := .tuple #[.agg #[.int .i64 0, .int .i64 0, .int .i64 0, .int .i64 0], .bool false]) (by simp [results, Tryz.results25, go_sem, c0, c1, c2, c3]) rfl ⟨by rw [HB.out, HC.out], (((B0.setCell (Nat.le_refl _) _).setCell (Nat.le_refl _) _).setCell (Nat.le_refl _) _).setCell (Nat.le_refl _) _⟩
    | true =>
      have hB : takeB n = true := by unfold takeB; rw [hk, decide_eq_true hn]; rfl
      have HC : Hid (takeC n = #[.int .i64 (n / 4096), .int .i64 (n / 1024 % 4), .int .i64 (n / 256 % 4), .int .i64 (n % 256)]) := show _ = _ by unfold takeC; rw [hB]; rfl
      have HB : Hid (takeB n = true) := hB
      clear hB hk hb
      go_wp2
      exact bodyPost_ret (v := .tuple #[.agg #[.int .i64 (n / 4096), .int .i64 (n / 1024 % 4), .int .i64 (n / 256 % 4), .int .i64 (n % 256)], .bool true]) (by simp [results, Tryz.results25, go_sem, c0, c1, c2, c3]) rfl ⟨by rw [HB.out, HC.out], (((B0.setCell (Nat.le_refl _) _).setCell (Nat.le_refl _) _).setCell (Nat.le_refl _) _).setCell (Nat.le_refl _) _⟩
  · have hf : takeB n = false := by unfold takeB; rw [decide_eq_false hn]; rfl
    have hc : takeC n = #[.int .i64 0, .int .i64 0, .int .i64 0, .int .i64 0] := by unfold takeC; rw [hf]; rfl
    rw [hf, hc]
    clear hf hc
    go_enter Tryz.func25, Tryz.ntmps25
    go_wp2_with fail
    refine (implOk_f n _ hn).mono ?_
    rintro e w1 ⟨rfl, rfl⟩
    go_wp2
    exact bodyPost_ret (v := .tuple #[.agg #[.int .i64 0, .int .i64 0, .int .i64 0, .int .i64 0], .bool false]) (by simp [results, Tryz.results25, go_sem]) rfl ⟨rfl, (Below.refl _ _).alloc (Nat.le_refl _) _⟩

theorem insEnds (op : Int) (w : World) : Calls Tryz.prog 26 #[.int .i64 op] w fun e w' => e = .returned (.bool (endsB op)) ∧ w' = w := by
  unfold endsB
  by_cases e1 : op = 11
  · subst e1
    go_enter Tryz.func26, Tryz.ntmps26
    go_wp2
    go_ret
    exact ⟨rfl, rfl⟩
  have b1 : (op == 11) = false := beq_eq_false_iff_ne.2 e1
  by_cases e2 : op = 12
  · subst e2
    go_enter Tryz.func26, Tryz.ntmps26
    go_wp2
    go_ret
    exact ⟨rfl, rfl⟩
  have b2 : (op == 12) = false := beq_eq_false_iff_ne.2 e2
  by_cases e3 : op = 13
  · subst e3
    go_enter Tryz.func26, Tryz.ntmps26
    go_wp2
    go_ret
    exact ⟨rfl, rfl⟩
  have b3 : (op == 13) = false := beq_eq_false_iff_ne.2 e3
  rw [decide_eq_false (p := op = 11 ∨ op = 12 ∨ op = 13) (by omega)]
  go_enter Tryz.func26, Tryz.ntmps26
  go_wp2
  go_ret
  exact ⟨rfl, rfl⟩
end Go.Proofs.YtnhpmbhphbphaaaGreat.InsI
