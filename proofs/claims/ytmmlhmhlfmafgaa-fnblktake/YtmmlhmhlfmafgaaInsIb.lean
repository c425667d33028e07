/-
  The program's InsOk at the kinds 5 to 12.
-/
import Derived.Test.YtmmlhmhlfmafgaaInsF
namespace Go.Proofs.Ytmmlhmhlfmafgaa.InsI
open Go.ChangeShapes Go.WideShapes Go.ChangeAt Go.RowKit Ins
set_option maxHeartbeats 4000000 in
theorem insOk_5 (d a k : Int) (w : World) : Calls Try.prog 32 #[.agg #[.int .i64 5, .int .i64 d, .int .i64 a, .int .i64 k]] w fun e w' => e = .returned (.bool (okB 5 d a k)) ∧ Below w.heap.size w w' := by
  have m1 := reckon_ok_m 5 d a k
  have m2 := reckon_plain_m 5 d a k
  have q1 := reckon_ok 5 d a k
  have q2 := reckon_plain 5 d a k
  have HK := hide (ok_5 d a k)
  generalize (inB d 0 3 && inB a 0 3 && inB k 0 3) = b at q1 HK
  have B0 : Below w.heap.size w (w.alloc (.cells #[.int .i64 5, .int .i64 d, .int .i64 a, .int .i64 k] 33)) := (Below.refl _ _).alloc (Nat.le_refl _) _
  go_enter Try.func32, Try.ntmps32
  go_wp2_with fail
  refine (formOf_5 d a k _).mono ?_
  rintro e w1 ⟨rfl, hb⟩
  have B1 := (B0.trans (hb.mono B0.size)).drew
  have c0 : w1.cell? ⟨w.heap.size, 0, none⟩ = some (.int .i64 5) := cell_below hb (by simp)
  have c1 : w1.cell? ⟨w.heap.size, 1, none⟩ = some (.int .i64 d) := cell_below hb (by simp)
  have c2 : w1.cell? ⟨w.heap.size, 2, none⟩ = some (.int .i64 a) := cell_below hb (by simp)
  have c3 : w1.cell? ⟨w.heap.size, 3, none⟩ = some (.int .i64 k) := cell_below hb (by simp)
  clear hb B0
  go_wp2_with fail
  cases b with
  | false =>
    first | (go_region_with (go_at_call 64; refine (q1 _).mono ?_; rintro e w2 ⟨rfl, hb2⟩)) | fail
    all_goals
      clear c0 c1 c2 c3
      have B2 := B1.trans (hb2.mono B1.size)
      clear hb2 B1 q1 q2 m1 m2
      go_wp2
      go_ret
      exact ⟨ret_bool (by rw [HK.out]; rfl), B2⟩
  | true =>
    first | (go_region_with (first | (go_at_call 64; refine (q1 _).mono ?_; rintro e w2 ⟨rfl, hb2⟩; replace c0 := cell_below hb2 c0; replace c1 := cell_below hb2 c1; replace c2 := cell_below hb2 c2; replace c3 := cell_below hb2 c3) | (go_at_call 65; refine (q2 _).mono ?_; rintro e w3 ⟨rfl, hb3⟩; replace c0 := cell_below hb3 c0; replace c1 := cell_below hb3 c1; replace c2 := cell_below hb3 c2; replace c3 := cell_below hb3 c3))) | fail
    all_goals
      clear c0 c1 c2 c3
      have B2 := B1.trans (hb2.mono B1.size)
      have B3 := B2.trans (hb3.mono B2.size)
      clear hb2 hb3 B1 B2 q1 q2 m1 m2
      go_wp2
      go_ret
      refine ⟨ret_bool ?_, B3⟩
      rw [HK.out]
      clear HK B3
      first | rfl | (rw [Bool.eq_iff_iff]; simp; omega) | (rw [Bool.eq_iff_iff]; simp; done)
set_option maxHeartbeats 4000000 in
theorem insOk_6 (d a k : Int) (w : World) : Calls Try.prog 32 #[.agg #[.int .i64 6, .int .i64 d, .int .i64 a, .int .i64 k]] w fun e w' => e = .returned (.bool (okB 6 d a k)) ∧ Below w.heap.size w w' := by
  have m1 := reckon_ok_m 6 d a k
  have m2 := reckon_plain_m 6 d a k
  have q1 := reckon_ok 6 d a k
  have q2 := reckon_plain 6 d a k
  have HK := hide (ok_6 d a k)
  generalize (inB d 0 3 && inB a 0 3 && inB k 0 3) = b at q1 HK
  have B0 : Below w.heap.size w (w.alloc (.cells #[.int .i64 6, .int .i64 d, .int .i64 a, .int .i64 k] 33)) := (Below.refl _ _).alloc (Nat.le_refl _) _
  go_enter Try.func32, Try.ntmps32
  go_wp2_with fail
  refine (formOf_6 d a k _).mono ?_
  rintro e w1 ⟨rfl, hb⟩
  have B1 := (B0.trans (hb.mono B0.size)).drew
  have c0 : w1.cell? ⟨w.heap.size, 0, none⟩ = some (.int .i64 6) := cell_below hb (by simp)
  have c1 : w1.cell? ⟨w.heap.size, 1, none⟩ = some (.int .i64 d) := cell_below hb (by simp)
  have c2 : w1.cell? ⟨w.heap.size, 2, none⟩ = some (.int .i64 a) := cell_below hb (by simp)
  have c3 : w1.cell? ⟨w.heap.size, 3, none⟩ = some (.int .i64 k) := cell_below hb (by simp)
  clear hb B0
  go_wp2_with fail
  cases b with
  | false =>
    first | (go_region_with (go_at_call 64; refine (q1 _).mono ?_; rintro e w2 ⟨rfl, hb2⟩)) | fail
    all_goals
      clear c0 c1 c2 c3
      have B2 := B1.trans (hb2.mono B1.size)
      clear hb2 B1 q1 q2 m1 m2
      go_wp2
      go_ret
      exact ⟨ret_bool (by rw [HK.out]; rfl), B2⟩
  | true =>
    first | (go_region_with (first | (go_at_call 64; refine (q1 _).mono ?_; rintro e w2 ⟨rfl, hb2⟩; replace c0 := cell_below hb2 c0; replace c1 := cell_below hb2 c1; replace c2 := cell_below hb2 c2; replace c3 := cell_below hb2 c3) | (go_at_call 65; refine (q2 _).mono ?_; rintro e w3 ⟨rfl, hb3⟩; replace c0 := cell_below hb3 c0; replace c1 := cell_below hb3 c1; replace c2 := cell_below hb3 c2; replace c3 := cell_below hb3 c3))) | fail
    all_goals
      clear c0 c1 c2 c3
      have B2 := B1.trans (hb2.mono B1.size)
      have B3 := B2.trans (hb3.mono B2.size)
      clear hb2 hb3 B1 B2 q1 q2 m1 m2
      go_wp2
      go_ret
      refine ⟨ret_bool ?_, B3⟩
      rw [HK.out]
      clear HK B3
      first | rfl | (rw [Bool.eq_iff_iff]; simp; omega) | (rw [Bool.eq_iff_iff]; simp; done)
set_option maxHeartbeats 4000000 in
theorem insOk_7 (d a k : Int) (w : World) : Calls Try.prog 32 #[.agg #[.int .i64 7, .int .i64 d, .int .i64 a, .int .i64 k]] w fun e w' => e = .returned (.bool (okB 7 d a k)) ∧ Below w.heap.size w w' := by
  have m1 := reckon_ok_m 7 d a k
  have m2 := reckon_plain_m 7 d a k
  have q1 := reckon_ok 7 d a k
  have q2 := reckon_plain 7 d a k
  have HK := hide (ok_7 d a k)
  generalize (inB d 0 3 && inB a 0 3 && inB k 0 3) = b at q1 HK
  have B0 : Below w.heap.size w (w.alloc (.cells #[.int .i64 7, .int .i64 d, .int .i64 a, .int .i64 k] 33)) := (Below.refl _ _).alloc (Nat.le_refl _) _
  go_enter Try.func32, Try.ntmps32
  go_wp2_with fail
  refine (formOf_7 d a k _).mono ?_
  rintro e w1 ⟨rfl, hb⟩
  have B1 := (B0.trans (hb.mono B0.size)).drew
  have c0 : w1.cell? ⟨w.heap.size, 0, none⟩ = some (.int .i64 7) := cell_below hb (by simp)
  have c1 : w1.cell? ⟨w.heap.size, 1, none⟩ = some (.int .i64 d) := cell_below hb (by simp)
  have c2 : w1.cell? ⟨w.heap.size, 2, none⟩ = some (.int .i64 a) := cell_below hb (by simp)
  have c3 : w1.cell? ⟨w.heap.size, 3, none⟩ = some (.int .i64 k) := cell_below hb (by simp)
  clear hb B0
  go_wp2_with fail
  cases b with
  | false =>
    first | (go_region_with (go_at_call 64; refine (q1 _).mono ?_; rintro e w2 ⟨rfl, hb2⟩)) | fail
    all_goals
      clear c0 c1 c2 c3
      have B2 := B1.trans (hb2.mono B1.size)
      clear hb2 B1 q1 q2 m1 m2
      go_wp2
      go_ret
      exact ⟨ret_bool (by rw [HK.out]; rfl), B2⟩
  | true =>
    first | (go_region_with (first | (go_at_call 64; refine (q1 _).mono ?_; rintro e w2 ⟨rfl, hb2⟩; replace c0 := cell_below hb2 c0; replace c1 := cell_below hb2 c1; replace c2 := cell_below hb2 c2; replace c3 := cell_below hb2 c3) | (go_at_call 65; refine (q2 _).mono ?_; rintro e w3 ⟨rfl, hb3⟩; replace c0 := cell_below hb3 c0; replace c1 := cell_below hb3 c1; replace c2 := cell_below hb3 c2; replace c3 := cell_below hb3 c3))) | fail
    all_goals
      clear c0 c1 c2 c3
      have B2 := B1.trans (hb2.mono B1.size)
      have B3 := B2.trans (hb3.mono B2.size)
      clear hb2 hb3 B1 B2 q1 q2 m1 m2
      go_wp2
      go_ret
      refine ⟨ret_bool ?_, B3⟩
      rw [HK.out]
      clear HK B3
      first | rfl | (rw [Bool.eq_iff_iff]; simp; omega) | (rw [Bool.eq_iff_iff]; simp; done)
set_option maxHeartbeats 4000000 in
theorem insOk_8 (d a k : Int) (w : World) : Calls Try.prog 32 #[.agg #[.int .i64 8, .int .i64 d, .int .i64 a, .int .i64 k]] w fun e w' => e = .returned (.bool (okB 8 d a k)) ∧ Below w.heap.size w w' := by
  have m1 := shift_ok_m d a k
  have m2 := shift_plain_m d a k
  have q1 := shift_ok d a k
  have q2 := shift_plain d a k
  have HK := hide (ok_8 d a k)
  generalize (inB d 0 3 && inB a 0 3 && inB k 0 15) = b at q1 HK
  have B0 : Below w.heap.size w (w.alloc (.cells #[.int .i64 8, .int .i64 d, .int .i64 a, .int .i64 k] 33)) := (Below.refl _ _).alloc (Nat.le_refl _) _
  go_enter Try.func32, Try.ntmps32
  go_wp2_with fail
  refine (formOf_8 d a k _).mono ?_
  rintro e w1 ⟨rfl, hb⟩
  have B1 := (B0.trans (hb.mono B0.size)).drew
  have c0 : w1.cell? ⟨w.heap.size, 0, none⟩ = some (.int .i64 8) := cell_below hb (by simp)
  have c1 : w1.cell? ⟨w.heap.size, 1, none⟩ = some (.int .i64 d) := cell_below hb (by simp)
  have c2 : w1.cell? ⟨w.heap.size, 2, none⟩ = some (.int .i64 a) := cell_below hb (by simp)
  have c3 : w1.cell? ⟨w.heap.size, 3, none⟩ = some (.int .i64 k) := cell_below hb (by simp)
  clear hb B0
  go_wp2_with fail
  cases b with
  | false =>
    first | (go_region_with (go_at_call 66; refine (q1 _).mono ?_; rintro e w2 ⟨rfl, hb2⟩)) | fail
    all_goals
      clear c0 c1 c2 c3
      have B2 := B1.trans (hb2.mono B1.size)
      clear hb2 B1 q1 q2 m1 m2
      go_wp2
      go_ret
      exact ⟨ret_bool (by rw [HK.out]; rfl), B2⟩
  | true =>
    first | (go_region_with (first | (go_at_call 66; refine (q1 _).mono ?_; rintro e w2 ⟨rfl, hb2⟩; replace c0 := cell_below hb2 c0; replace c1 := cell_below hb2 c1; replace c2 := cell_below hb2 c2; replace c3 := cell_below hb2 c3) | (go_at_call 67; refine (q2 _).mono ?_; rintro e w3 ⟨rfl, hb3⟩; replace c0 := cell_below hb3 c0; replace c1 := cell_below hb3 c1; replace c2 := cell_below hb3 c2; replace c3 := cell_below hb3 c3))) | fail
    all_goals
      clear c0 c1 c2 c3
      have B2 := B1.trans (hb2.mono B1.size)
      have B3 := B2.trans (hb3.mono B2.size)
      clear hb2 hb3 B1 B2 q1 q2 m1 m2
      go_wp2
      go_ret
      refine ⟨ret_bool ?_, B3⟩
      rw [HK.out]
      clear HK B3
      first | rfl | (rw [Bool.eq_iff_iff]; simp; omega) | (rw [Bool.eq_iff_iff]; simp; done)
set_option maxHeartbeats 4000000 in
theorem insOk_9 (d a k : Int) (w : World) : Calls Try.prog 32 #[.agg #[.int .i64 9, .int .i64 d, .int .i64 a, .int .i64 k]] w fun e w' => e = .returned (.bool (okB 9 d a k)) ∧ Below w.heap.size w w' := by
  have m1 := reach_ok_m 9 d a k
  have m2 := reach_plain_m 9 d a k
  have q1 := reach_ok 9 d a k
  have q2 := reach_plain 9 d a k
  have HK := hide (ok_9 d a k)
  generalize (inB d 0 3 && inB a 0 3 && inB k 0 255) = b at q1 HK
  have B0 : Below w.heap.size w (w.alloc (.cells #[.int .i64 9, .int .i64 d, .int .i64 a, .int .i64 k] 33)) := (Below.refl _ _).alloc (Nat.le_refl _) _
  go_enter Try.func32, Try.ntmps32
  go_wp2_with fail
  refine (formOf_9 d a k _).mono ?_
  rintro e w1 ⟨rfl, hb⟩
  have B1 := (B0.trans (hb.mono B0.size)).drew
  have c0 : w1.cell? ⟨w.heap.size, 0, none⟩ = some (.int .i64 9) := cell_below hb (by simp)
  have c1 : w1.cell? ⟨w.heap.size, 1, none⟩ = some (.int .i64 d) := cell_below hb (by simp)
  have c2 : w1.cell? ⟨w.heap.size, 2, none⟩ = some (.int .i64 a) := cell_below hb (by simp)
  have c3 : w1.cell? ⟨w.heap.size, 3, none⟩ = some (.int .i64 k) := cell_below hb (by simp)
  clear hb B0
  go_wp2_with fail
  cases b with
  | false =>
    first | (go_region_with (go_at_call 68; refine (q1 _).mono ?_; rintro e w2 ⟨rfl, hb2⟩)) | fail
    all_goals
      clear c0 c1 c2 c3
      have B2 := B1.trans (hb2.mono B1.size)
      clear hb2 B1 q1 q2 m1 m2
      go_wp2
      go_ret
      exact ⟨ret_bool (by rw [HK.out]; rfl), B2⟩
  | true =>
    first | (go_region_with (first | (go_at_call 68; refine (q1 _).mono ?_; rintro e w2 ⟨rfl, hb2⟩; replace c0 := cell_below hb2 c0; replace c1 := cell_below hb2 c1; replace c2 := cell_below hb2 c2; replace c3 := cell_below hb2 c3) | (go_at_call 69; refine (q2 _).mono ?_; rintro e w3 ⟨rfl, hb3⟩; replace c0 := cell_below hb3 c0; replace c1 := cell_below hb3 c1; replace c2 := cell_below hb3 c2; replace c3 := cell_below hb3 c3))) | fail
    all_goals
      clear c0 c1 c2 c3
      have B2 := B1.trans (hb2.mono B1.size)
      have B3 := B2.trans (hb3.mono B2.size)
      clear hb2 hb3 B1 B2 q1 q2 m1 m2
      go_wp2
      go_ret
      refine ⟨ret_bool ?_, B3⟩
      rw [HK.out]
      clear HK B3
      first | rfl | (rw [Bool.eq_iff_iff]; simp; omega) | (rw [Bool.eq_iff_iff]; simp; done)
set_option maxHeartbeats 4000000 in
theorem insOk_10 (d a k : Int) (w : World) : Calls Try.prog 32 #[.agg #[.int .i64 10, .int .i64 d, .int .i64 a, .int .i64 k]] w fun e w' => e = .returned (.bool (okB 10 d a k)) ∧ Below w.heap.size w w' := by
  have m1 := reach_ok_m 10 d a k
  have m2 := reach_plain_m 10 d a k
  have q1 := reach_ok 10 d a k
  have q2 := reach_plain 10 d a k
  have HK := hide (ok_10 d a k)
  generalize (inB d 0 3 && inB a 0 3 && inB k 0 255) = b at q1 HK
  have B0 : Below w.heap.size w (w.alloc (.cells #[.int .i64 10, .int .i64 d, .int .i64 a, .int .i64 k] 33)) := (Below.refl _ _).alloc (Nat.le_refl _) _
  go_enter Try.func32, Try.ntmps32
  go_wp2_with fail
  refine (formOf_10 d a k _).mono ?_
  rintro e w1 ⟨rfl, hb⟩
  have B1 := (B0.trans (hb.mono B0.size)).drew
  have c0 : w1.cell? ⟨w.heap.size, 0, none⟩ = some (.int .i64 10) := cell_below hb (by simp)
  have c1 : w1.cell? ⟨w.heap.size, 1, none⟩ = some (.int .i64 d) := cell_below hb (by simp)
  have c2 : w1.cell? ⟨w.heap.size, 2, none⟩ = some (.int .i64 a) := cell_below hb (by simp)
  have c3 : w1.cell? ⟨w.heap.size, 3, none⟩ = some (.int .i64 k) := cell_below hb (by simp)
  clear hb B0
  go_wp2_with fail
  cases b with
  | false =>
    first | (go_region_with (go_at_call 68; refine (q1 _).mono ?_; rintro e w2 ⟨rfl, hb2⟩)) | fail
    all_goals
      clear c0 c1 c2 c3
      have B2 := B1.trans (hb2.mono B1.size)
      clear hb2 B1 q1 q2 m1 m2
      go_wp2
      go_ret
      exact ⟨ret_bool (by rw [HK.out]; rfl), B2⟩
  | true =>
    first | (go_region_with (first | (go_at_call 68; refine (q1 _).mono ?_; rintro e w2 ⟨rfl, hb2⟩; replace c0 := cell_below hb2 c0; replace c1 := cell_below hb2 c1; replace c2 := cell_below hb2 c2; replace c3 := cell_below hb2 c3) | (go_at_call 69; refine (q2 _).mono ?_; rintro e w3 ⟨rfl, hb3⟩; replace c0 := cell_below hb3 c0; replace c1 := cell_below hb3 c1; replace c2 := cell_below hb3 c2; replace c3 := cell_below hb3 c3))) | fail
    all_goals
      clear c0 c1 c2 c3
      have B2 := B1.trans (hb2.mono B1.size)
      have B3 := B2.trans (hb3.mono B2.size)
      clear hb2 hb3 B1 B2 q1 q2 m1 m2
      go_wp2
      go_ret
      refine ⟨ret_bool ?_, B3⟩
      rw [HK.out]
      clear HK B3
      first | rfl | (rw [Bool.eq_iff_iff]; simp; omega) | (rw [Bool.eq_iff_iff]; simp; done)
set_option maxHeartbeats 4000000 in
theorem insOk_11 (d a k : Int) (w : World) : Calls Try.prog 32 #[.agg #[.int .i64 11, .int .i64 d, .int .i64 a, .int .i64 k]] w fun e w' => e = .returned (.bool (okB 11 d a k)) ∧ Below w.heap.size w w' := by
  have m1 := ask_ok_m 11 d a k
  have m2 := ask_plain_m 11 d a k
  have q1 := ask_ok 11 d a k
  have q2 := ask_plain 11 d a k
  have HK := hide (ok_11 d a k)
  generalize (inB d 0 3 && inB a 0 3 && inB k 0 255) = b at q1 HK
  have B0 : Below w.heap.size w (w.alloc (.cells #[.int .i64 11, .int .i64 d, .int .i64 a, .int .i64 k] 33)) := (Below.refl _ _).alloc (Nat.le_refl _) _
  go_enter Try.func32, Try.ntmps32
  go_wp2_with fail
  refine (formOf_11 d a k _).mono ?_
  rintro e w1 ⟨rfl, hb⟩
  have B1 := (B0.trans (hb.mono B0.size)).drew
  have c0 : w1.cell? ⟨w.heap.size, 0, none⟩ = some (.int .i64 11) := cell_below hb (by simp)
  have c1 : w1.cell? ⟨w.heap.size, 1, none⟩ = some (.int .i64 d) := cell_below hb (by simp)
  have c2 : w1.cell? ⟨w.heap.size, 2, none⟩ = some (.int .i64 a) := cell_below hb (by simp)
  have c3 : w1.cell? ⟨w.heap.size, 3, none⟩ = some (.int .i64 k) := cell_below hb (by simp)
  clear hb B0
  go_wp2_with fail
  cases b with
  | false =>
    first | (go_region_with (go_at_call 70; refine (q1 _).mono ?_; rintro e w2 ⟨rfl, hb2⟩)) | fail
    all_goals
      clear c0 c1 c2 c3
      have B2 := B1.trans (hb2.mono B1.size)
      clear hb2 B1 q1 q2 m1 m2
      go_wp2
      go_ret
      exact ⟨ret_bool (by rw [HK.out]; rfl), B2⟩
  | true =>
    first | (go_region_with (first | (go_at_call 70; refine (q1 _).mono ?_; rintro e w2 ⟨rfl, hb2⟩; replace c0 := cell_below hb2 c0; replace c1 := cell_below hb2 c1; replace c2 := cell_below hb2 c2; replace c3 := cell_below hb2 c3) | (go_at_call 71; refine (q2 _).mono ?_; rintro e w3 ⟨rfl, hb3⟩; replace c0 := cell_below hb3 c0; replace c1 := cell_below hb3 c1; replace c2 := cell_below hb3 c2; replace c3 := cell_below hb3 c3))) | fail
    all_goals
      clear c0 c1 c2 c3
      have B2 := B1.trans (hb2.mono B1.size)
      have B3 := B2.trans (hb3.mono B2.size)
      clear hb2 hb3 B1 B2 q1 q2 m1 m2
      go_wp2
      go_ret
      refine ⟨ret_bool ?_, B3⟩
      rw [HK.out]
      clear HK B3
      first | rfl | (rw [Bool.eq_iff_iff]; simp; omega) | (rw [Bool.eq_iff_iff]; simp; done)
set_option maxHeartbeats 4000000 in
theorem insOk_12 (d a k : Int) (w : World) : Calls Try.prog 32 #[.agg #[.int .i64 12, .int .i64 d, .int .i64 a, .int .i64 k]] w fun e w' => e = .returned (.bool (okB 12 d a k)) ∧ Below w.heap.size w w' := by
  have m1 := ask_ok_m 12 d a k
  have m2 := ask_plain_m 12 d a k
  have q1 := ask_ok 12 d a k
  have q2 := ask_plain 12 d a k
  have HK := hide (ok_12 d a k)
  generalize (inB d 0 3 && inB a 0 3 && inB k 0 255) = b at q1 HK
  have B0 : Below w.heap.size w (w.alloc (.cells #[.int .i64 12, .int .i64 d, .int .i64 a, .int .i64 k] 33)) := (Below.refl _ _).alloc (Nat.le_refl _) _
  go_enter Try.func32, Try.ntmps32
  go_wp2_with fail
  refine (formOf_12 d a k _).mono ?_
  rintro e w1 ⟨rfl, hb⟩
  have B1 := (B0.trans (hb.mono B0.size)).drew
  have c0 : w1.cell? ⟨w.heap.size, 0, none⟩ = some (.int .i64 12) := cell_below hb (by simp)
  have c1 : w1.cell? ⟨w.heap.size, 1, none⟩ = some (.int .i64 d) := cell_below hb (by simp)
  have c2 : w1.cell? ⟨w.heap.size, 2, none⟩ = some (.int .i64 a) := cell_below hb (by simp)
  have c3 : w1.cell? ⟨w.heap.size, 3, none⟩ = some (.int .i64 k) := cell_below hb (by simp)
  clear hb B0
  go_wp2_with fail
  cases b with
  | false =>
    first | (go_region_with (go_at_call 70; refine (q1 _).mono ?_; rintro e w2 ⟨rfl, hb2⟩)) | fail
    all_goals
      clear c0 c1 c2 c3
      have B2 := B1.trans (hb2.mono B1.size)
      clear hb2 B1 q1 q2 m1 m2
      go_wp2
      go_ret
      exact ⟨ret_bool (by rw [HK.out]; rfl), B2⟩
  | true =>
    first | (go_region_with (first | (go_at_call 70; refine (q1 _).mono ?_; rintro e w2 ⟨rfl, hb2⟩; replace c0 := cell_below hb2 c0; replace c1 := cell_below hb2 c1; replace c2 := cell_below hb2 c2; replace c3 := cell_below hb2 c3) | (go_at_call 71; refine (q2 _).mono ?_; rintro e w3 ⟨rfl, hb3⟩; replace c0 := cell_below hb3 c0; replace c1 := cell_below hb3 c1; replace c2 := cell_below hb3 c2; replace c3 := cell_below hb3 c3))) | fail
    all_goals
      clear c0 c1 c2 c3
      have B2 := B1.trans (hb2.mono B1.size)
      have B3 := B2.trans (hb3.mono B2.size)
      clear hb2 hb3 B1 B2 q1 q2 m1 m2
      go_wp2
      go_ret
      refine ⟨ret_bool ?_, B3⟩
      rw [HK.out]
      clear HK B3
      first | rfl | (rw [Bool.eq_iff_iff]; simp; omega) | (rw [Bool.eq_iff_iff]; simp; done)
end Go.Proofs.Ytmmlhmhlfmafgaa.InsI
