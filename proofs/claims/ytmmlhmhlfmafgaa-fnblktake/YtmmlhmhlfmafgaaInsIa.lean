/-
  The program's InsOk at the kinds 0 to 4.
-/
import Derived.Test.YtmmlhmhlfmafgaaInsF
namespace Go.Proofs.Ytmmlhmhlfmafgaa.InsI
open Go.ChangeShapes Go.WideShapes Go.ChangeAt Go.RowKit Ins
set_option maxHeartbeats 4000000 in
theorem insOk_0 (d a k : Int) (w : World) : Calls Try.prog 32 #[.agg #[.int .i64 0, .int .i64 d, .int .i64 a, .int .i64 k]] w fun e w' => e = .returned (.bool (okB 0 d a k)) ∧ Below w.heap.size w w' := by
  have m1 := stop_ok_m k
  have m2 := stop_plain_m k
  have q1 := stop_ok k
  have q2 := stop_plain k
  have HK := hide (ok_0 d a k)
  generalize (inB k 0 3) = b at q1 HK
  have B0 : Below w.heap.size w (w.alloc (.cells #[.int .i64 0, .int .i64 d, .int .i64 a, .int .i64 k] 33)) := (Below.refl _ _).alloc (Nat.le_refl _) _
  go_enter Try.func32, Try.ntmps32
  go_wp2_with fail
  refine (formOf_0 d a k _).mono ?_
  rintro e w1 ⟨rfl, hb⟩
  have B1 := (B0.trans (hb.mono B0.size)).drew
  have c0 : w1.cell? ⟨w.heap.size, 0, none⟩ = some (.int .i64 0) := cell_below hb (by simp)
  have c1 : w1.cell? ⟨w.heap.size, 1, none⟩ = some (.int .i64 d) := cell_below hb (by simp)
  have c2 : w1.cell? ⟨w.heap.size, 2, none⟩ = some (.int .i64 a) := cell_below hb (by simp)
  have c3 : w1.cell? ⟨w.heap.size, 3, none⟩ = some (.int .i64 k) := cell_below hb (by simp)
  clear hb B0
  go_wp2_with fail
  cases b with
  | false =>
    first | (go_region_with (go_at_call 56; refine (q1 _).mono ?_; rintro e w2 ⟨rfl, hb2⟩)) | fail
    all_goals
      clear c0 c1 c2 c3
      have B2 := B1.trans (hb2.mono B1.size)
      clear hb2 B1 q1 q2 m1 m2
      go_wp2
      go_ret
      exact ⟨ret_bool (by rw [HK.out]; rfl), B2⟩
  | true =>
    by_cases e_d : d = 0
    · subst e_d
      by_cases e_a : a = 0
      · subst e_a
        first | (go_region_with (first | (go_at_call 56; refine (q1 _).mono ?_; rintro e w2 ⟨rfl, hb2⟩; replace c0 := cell_below hb2 c0; replace c1 := cell_below hb2 c1; replace c2 := cell_below hb2 c2; replace c3 := cell_below hb2 c3) | (go_at_call 57; refine (q2 _).mono ?_; rintro e w3 ⟨rfl, hb3⟩; replace c0 := cell_below hb3 c0; replace c1 := cell_below hb3 c1; replace c2 := cell_below hb3 c2; replace c3 := cell_below hb3 c3))) | fail
        all_goals
          clear c0 c1 c2 c3
          have B2 := B1.trans (hb2.mono B1.size)
          have B3 := B2.trans (hb3.mono B2.size)
          clear hb2 hb3 B1 B2 q1 q2 m1 m2
          go_wp2
          go_ret
          refine ⟨ret_bool ?_, B3⟩
          rw [HK.out]
          clear HK B3
          first | rfl | (rw [Bool.eq_iff_iff]; simp; omega) | (rw [Bool.eq_iff_iff]; simp; done)
      · have n_a : ((0 : Int) == a) = false := beq_eq_false_iff_ne.2 (Ne.symm e_a)
        first | (go_region_with (first | (go_at_call 56; refine (q1 _).mono ?_; rintro e w2 ⟨rfl, hb2⟩; replace c0 := cell_below hb2 c0; replace c1 := cell_below hb2 c1; replace c2 := cell_below hb2 c2; replace c3 := cell_below hb2 c3) | (go_at_call 57; refine (q2 _).mono ?_; rintro e w3 ⟨rfl, hb3⟩; replace c0 := cell_below hb3 c0; replace c1 := cell_below hb3 c1; replace c2 := cell_below hb3 c2; replace c3 := cell_below hb3 c3))) | fail
        all_goals
          clear c0 c1 c2 c3
          have B2 := B1.trans (hb2.mono B1.size)
          have B3 := B2.trans (hb3.mono B2.size)
          clear hb2 hb3 B1 B2 q1 q2 m1 m2
          go_wp2
          go_ret
          refine ⟨ret_bool ?_, B3⟩
          rw [HK.out]
          clear HK B3
          first | rfl | (rw [Bool.eq_iff_iff]; simp; omega) | (rw [Bool.eq_iff_iff]; simp; done)
    · have n_d : ((0 : Int) == d) = false := beq_eq_false_iff_ne.2 (Ne.symm e_d)
      first | (go_region_with (first | (go_at_call 56; refine (q1 _).mono ?_; rintro e w2 ⟨rfl, hb2⟩; replace c0 := cell_below hb2 c0; replace c1 := cell_below hb2 c1; replace c2 := cell_below hb2 c2; replace c3 := cell_below hb2 c3) | (go_at_call 57; refine (q2 _).mono ?_; rintro e w3 ⟨rfl, hb3⟩; replace c0 := cell_below hb3 c0; replace c1 := cell_below hb3 c1; replace c2 := cell_below hb3 c2; replace c3 := cell_below hb3 c3))) | fail
      all_goals
        clear c0 c1 c2 c3
        have B2 := B1.trans (hb2.mono B1.size)
        have B3 := B2.trans (hb3.mono B2.size)
        clear hb2 hb3 B1 B2 q1 q2 m1 m2
        go_wp2
        go_ret
        refine ⟨ret_bool ?_, B3⟩
        rw [HK.out]
        clear HK B3
        first | rfl | (rw [Bool.eq_iff_iff]; simp; omega) | (rw [Bool.eq_iff_iff]; simp; done)
set_option maxHeartbeats 4000000 in
theorem insOk_1 (d a k : Int) (w : World) : Calls Try.prog 32 #[.agg #[.int .i64 1, .int .i64 d, .int .i64 a, .int .i64 k]] w fun e w' => e = .returned (.bool (okB 1 d a k)) ∧ Below w.heap.size w w' := by
  have m1 := set_ok_m d k
  have m2 := set_plain_m d k
  have q1 := set_ok d k
  have q2 := set_plain d k
  have HK := hide (ok_1 d a k)
  generalize (inB d 0 3 && inB k 0 255) = b at q1 HK
  have B0 : Below w.heap.size w (w.alloc (.cells #[.int .i64 1, .int .i64 d, .int .i64 a, .int .i64 k] 33)) := (Below.refl _ _).alloc (Nat.le_refl _) _
  go_enter Try.func32, Try.ntmps32
  go_wp2_with fail
  refine (formOf_1 d a k _).mono ?_
  rintro e w1 ⟨rfl, hb⟩
  have B1 := (B0.trans (hb.mono B0.size)).drew
  have c0 : w1.cell? ⟨w.heap.size, 0, none⟩ = some (.int .i64 1) := cell_below hb (by simp)
  have c1 : w1.cell? ⟨w.heap.size, 1, none⟩ = some (.int .i64 d) := cell_below hb (by simp)
  have c2 : w1.cell? ⟨w.heap.size, 2, none⟩ = some (.int .i64 a) := cell_below hb (by simp)
  have c3 : w1.cell? ⟨w.heap.size, 3, none⟩ = some (.int .i64 k) := cell_below hb (by simp)
  clear hb B0
  go_wp2_with fail
  cases b with
  | false =>
    first | (go_region_with (go_at_call 58; refine (q1 _).mono ?_; rintro e w2 ⟨rfl, hb2⟩)) | fail
    all_goals
      clear c0 c1 c2 c3
      have B2 := B1.trans (hb2.mono B1.size)
      clear hb2 B1 q1 q2 m1 m2
      go_wp2
      go_ret
      exact ⟨ret_bool (by rw [HK.out]; rfl), B2⟩
  | true =>
    by_cases e_a : a = 0
    · subst e_a
      first | (go_region_with (first | (go_at_call 58; refine (q1 _).mono ?_; rintro e w2 ⟨rfl, hb2⟩; replace c0 := cell_below hb2 c0; replace c1 := cell_below hb2 c1; replace c2 := cell_below hb2 c2; replace c3 := cell_below hb2 c3) | (go_at_call 59; refine (q2 _).mono ?_; rintro e w3 ⟨rfl, hb3⟩; replace c0 := cell_below hb3 c0; replace c1 := cell_below hb3 c1; replace c2 := cell_below hb3 c2; replace c3 := cell_below hb3 c3))) | fail
      all_goals
        clear c0 c1 c2 c3
        have B2 := B1.trans (hb2.mono B1.size)
        have B3 := B2.trans (hb3.mono B2.size)
        clear hb2 hb3 B1 B2 q1 q2 m1 m2
        go_wp2
        go_ret
        refine ⟨ret_bool ?_, B3⟩
        rw [HK.out]
        clear HK B3
        first | rfl | (rw [Bool.eq_iff_iff]; simp; omega) | (rw [Bool.eq_iff_iff]; simp; done)
    · have n_a : ((0 : Int) == a) = false := beq_eq_false_iff_ne.2 (Ne.symm e_a)
      first | (go_region_with (first | (go_at_call 58; refine (q1 _).mono ?_; rintro e w2 ⟨rfl, hb2⟩; replace c0 := cell_below hb2 c0; replace c1 := cell_below hb2 c1; replace c2 := cell_below hb2 c2; replace c3 := cell_below hb2 c3) | (go_at_call 59; refine (q2 _).mono ?_; rintro e w3 ⟨rfl, hb3⟩; replace c0 := cell_below hb3 c0; replace c1 := cell_below hb3 c1; replace c2 := cell_below hb3 c2; replace c3 := cell_below hb3 c3))) | fail
      all_goals
        clear c0 c1 c2 c3
        have B2 := B1.trans (hb2.mono B1.size)
        have B3 := B2.trans (hb3.mono B2.size)
        clear hb2 hb3 B1 B2 q1 q2 m1 m2
        go_wp2
        go_ret
        refine ⟨ret_bool ?_, B3⟩
        rw [HK.out]
        clear HK B3
        first | rfl | (rw [Bool.eq_iff_iff]; simp; omega) | (rw [Bool.eq_iff_iff]; simp; done)
set_option maxHeartbeats 4000000 in
theorem insOk_2 (d a k : Int) (w : World) : Calls Try.prog 32 #[.agg #[.int .i64 2, .int .i64 d, .int .i64 a, .int .i64 k]] w fun e w' => e = .returned (.bool (okB 2 d a k)) ∧ Below w.heap.size w w' := by
  have m1 := move_ok_m d a
  have m2 := move_plain_m d a
  have q1 := move_ok d a
  have q2 := move_plain d a
  have HK := hide (ok_2 d a k)
  generalize (inB d 0 3 && inB a 0 3) = b at q1 HK
  have B0 : Below w.heap.size w (w.alloc (.cells #[.int .i64 2, .int .i64 d, .int .i64 a, .int .i64 k] 33)) := (Below.refl _ _).alloc (Nat.le_refl _) _
  go_enter Try.func32, Try.ntmps32
  go_wp2_with fail
  refine (formOf_2 d a k _).mono ?_
  rintro e w1 ⟨rfl, hb⟩
  have B1 := (B0.trans (hb.mono B0.size)).drew
  have c0 : w1.cell? ⟨w.heap.size, 0, none⟩ = some (.int .i64 2) := cell_below hb (by simp)
  have c1 : w1.cell? ⟨w.heap.size, 1, none⟩ = some (.int .i64 d) := cell_below hb (by simp)
  have c2 : w1.cell? ⟨w.heap.size, 2, none⟩ = some (.int .i64 a) := cell_below hb (by simp)
  have c3 : w1.cell? ⟨w.heap.size, 3, none⟩ = some (.int .i64 k) := cell_below hb (by simp)
  clear hb B0
  go_wp2_with fail
  cases b with
  | false =>
    first | (go_region_with (go_at_call 62; refine (q1 _).mono ?_; rintro e w2 ⟨rfl, hb2⟩)) | fail
    all_goals
      clear c0 c1 c2 c3
      have B2 := B1.trans (hb2.mono B1.size)
      clear hb2 B1 q1 q2 m1 m2
      go_wp2
      go_ret
      exact ⟨ret_bool (by rw [HK.out]; rfl), B2⟩
  | true =>
    by_cases e_k : k = 0
    · subst e_k
      first | (go_region_with (first | (go_at_call 62; refine (q1 _).mono ?_; rintro e w2 ⟨rfl, hb2⟩; replace c0 := cell_below hb2 c0; replace c1 := cell_below hb2 c1; replace c2 := cell_below hb2 c2; replace c3 := cell_below hb2 c3) | (go_at_call 63; refine (q2 _).mono ?_; rintro e w3 ⟨rfl, hb3⟩; replace c0 := cell_below hb3 c0; replace c1 := cell_below hb3 c1; replace c2 := cell_below hb3 c2; replace c3 := cell_below hb3 c3))) | fail
      all_goals
        clear c0 c1 c2 c3
        have B2 := B1.trans (hb2.mono B1.size)
        have B3 := B2.trans (hb3.mono B2.size)
        clear hb2 hb3 B1 B2 q1 q2 m1 m2
        go_wp2
        go_ret
        refine ⟨ret_bool ?_, B3⟩
        rw [HK.out]
        clear HK B3
        first | rfl | (rw [Bool.eq_iff_iff]; simp; omega) | (rw [Bool.eq_iff_iff]; simp; done)
    · have n_k : ((0 : Int) == k) = false := beq_eq_false_iff_ne.2 (Ne.symm e_k)
      first | (go_region_with (first | (go_at_call 62; refine (q1 _).mono ?_; rintro e w2 ⟨rfl, hb2⟩; replace c0 := cell_below hb2 c0; replace c1 := cell_below hb2 c1; replace c2 := cell_below hb2 c2; replace c3 := cell_below hb2 c3) | (go_at_call 63; refine (q2 _).mono ?_; rintro e w3 ⟨rfl, hb3⟩; replace c0 := cell_below hb3 c0; replace c1 := cell_below hb3 c1; replace c2 := cell_below hb3 c2; replace c3 := cell_below hb3 c3))) | fail
      all_goals
        clear c0 c1 c2 c3
        have B2 := B1.trans (hb2.mono B1.size)
        have B3 := B2.trans (hb3.mono B2.size)
        clear hb2 hb3 B1 B2 q1 q2 m1 m2
        go_wp2
        go_ret
        refine ⟨ret_bool ?_, B3⟩
        rw [HK.out]
        clear HK B3
        first | rfl | (rw [Bool.eq_iff_iff]; simp; omega) | (rw [Bool.eq_iff_iff]; simp; done)
set_option maxHeartbeats 4000000 in
theorem insOk_3 (d a k : Int) (w : World) : Calls Try.prog 32 #[.agg #[.int .i64 3, .int .i64 d, .int .i64 a, .int .i64 k]] w fun e w' => e = .returned (.bool (okB 3 d a k)) ∧ Below w.heap.size w w' := by
  have m1 := reckon_ok_m 3 d a k
  have m2 := reckon_plain_m 3 d a k
  have q1 := reckon_ok 3 d a k
  have q2 := reckon_plain 3 d a k
  have HK := hide (ok_3 d a k)
  generalize (inB d 0 3 && inB a 0 3 && inB k 0 3) = b at q1 HK
  have B0 : Below w.heap.size w (w.alloc (.cells #[.int .i64 3, .int .i64 d, .int .i64 a, .int .i64 k] 33)) := (Below.refl _ _).alloc (Nat.le_refl _) _
  go_enter Try.func32, Try.ntmps32
  go_wp2_with fail
  refine (formOf_3 d a k _).mono ?_
  rintro e w1 ⟨rfl, hb⟩
  have B1 := (B0.trans (hb.mono B0.size)).drew
  have c0 : w1.cell? ⟨w.heap.size, 0, none⟩ = some (.int .i64 3) := cell_below hb (by simp)
  have c1 : w1.cell? ⟨w.heap.size, 1, none⟩ = some (.int .i64 d) := cell_below hb (by simp)
  have c2 : w1.cell? ⟨w.heap.size, 2, none⟩ = some (.int .i64 a) := cell_below hb (by simp)
  have c3 : w1.cell? ⟨w.heap.size, 3, none⟩ = some (.int .i64 k) := cell_below hb (by simp)
  clear hb B0
  go_wp2_with fail
  cases b with
  | false =>
    first | (go_region_with (go_at_call 64; refine (q1 _).mono ?_; rintro e w2 ⟨rfl, hb2⟩)) | fail
    all_goals
      clear c0 c1 c2 c3
      have B2 := B1.trans (hb2.mono B1.size)
      clear hb2 B1 q1 q2 m1 m2
      go_wp2
      go_ret
      exact ⟨ret_bool (by rw [HK.out]; rfl), B2⟩
  | true =>
    first | (go_region_with (first | (go_at_call 64; refine (q1 _).mono ?_; rintro e w2 ⟨rfl, hb2⟩; replace c0 := cell_below hb2 c0; replace c1 := cell_below hb2 c1; replace c2 := cell_below hb2 c2; replace c3 := cell_below hb2 c3) | (go_at_call 65; refine (q2 _).mono ?_; rintro e w3 ⟨rfl, hb3⟩; replace c0 := cell_below hb3 c0; replace c1 := cell_below hb3 c1; replace c2 := cell_below hb3 c2; replace c3 := cell_below hb3 c3))) | fail
    all_goals
      clear c0 c1 c2 c3
      have B2 := B1.trans (hb2.mono B1.size)
      have B3 := B2.trans (hb3.mono B2.size)
      clear hb2 hb3 B1 B2 q1 q2 m1 m2
      go_wp2
      go_ret
      refine ⟨ret_bool ?_, B3⟩
      rw [HK.out]
      clear HK B3
      first | rfl | (rw [Bool.eq_iff_iff]; simp; omega) | (rw [Bool.eq_iff_iff]; simp; done)
set_option maxHeartbeats 4000000 in
theorem insOk_4 (d a k : Int) (w : World) : Calls Try.prog 32 #[.agg #[.int .i64 4, .int .i64 d, .int .i64 a, .int .i64 k]] w fun e w' => e = .returned (.bool (okB 4 d a k)) ∧ Below w.heap.size w w' := by
  have m1 := reckon_ok_m 4 d a k
  have m2 := reckon_plain_m 4 d a k
  have q1 := reckon_ok 4 d a k
  have q2 := reckon_plain 4 d a k
  have HK := hide (ok_4 d a k)
  generalize (inB d 0 3 && inB a 0 3 && inB k 0 3) = b at q1 HK
  have B0 : Below w.heap.size w (w.alloc (.cells #[.int .i64 4, .int .i64 d, .int .i64 a, .int .i64 k] 33)) := (Below.refl _ _).alloc (Nat.le_refl _) _
  go_enter Try.func32, Try.ntmps32
  go_wp2_with fail
  refine (formOf_4 d a k _).mono ?_
  rintro e w1 ⟨rfl, hb⟩
  have B1 := (B0.trans (hb.mono B0.size)).drew
  have c0 : w1.cell? ⟨w.heap.size, 0, none⟩ = some (.int .i64 4) := cell_below hb (by simp)
  have c1 : w1.cell? ⟨w.heap.size, 1, none⟩ = some (.int .i64 d) := cell_below hb (by simp)
  have c2 : w1.cell? ⟨w.heap.size, 2, none⟩ = some (.int .i64 a) := cell_below hb (by simp)
  have c3 : w1.cell? ⟨w.heap.size, 3, none⟩ = some (.int .i64 k) := cell_below hb (by simp)
  clear hb B0
  go_wp2_with fail
  cases b with
  | false =>
    first | (go_region_with (go_at_call 64; refine (q1 _).mono ?_; rintro e w2 ⟨rfl, hb2⟩)) | fail
    all_goals
      clear c0 c1 c2 c3
      have B2 := B1.trans (hb2.mono B1.size)
      clear hb2 B1 q1 q2 m1 m2
      go_wp2
      go_ret
      exact ⟨ret_bool (by rw [HK.out]; rfl), B2⟩
  | true =>
    first | (go_region_with (first | (go_at_call 64; refine (q1 _).mono ?_; rintro e w2 ⟨rfl, hb2⟩; replace c0 := cell_below hb2 c0; replace c1 := cell_below hb2 c1; replace c2 := cell_below hb2 c2; replace c3 := cell_below hb2 c3) | (go_at_call 65; refine (q2 _).mono ?_; rintro e w3 ⟨rfl, hb3⟩; replace c0 := cell_below hb3 c0; replace c1 := cell_below hb3 c1; replace c2 := cell_below hb3 c2; replace c3 := cell_below hb3 c3))) | fail
    all_goals
      clear c0 c1 c2 c3
      have B2 := B1.trans (hb2.mono B1.size)
      have B3 := B2.trans (hb3.mono B2.size)
      clear hb2 hb3 B1 B2 q1 q2 m1 m2
      go_wp2
      go_ret
      refine ⟨ret_bool ?_, B3⟩
      rw [HK.out]
      clear HK B3
      first | rfl | (rw [Bool.eq_iff_iff]; simp; omega) | (rw [Bool.eq_iff_iff]; simp; done)
end Go.Proofs.Ytmmlhmhlfmafgaa.InsI
