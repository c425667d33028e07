/-
  The program's InsOk at the kinds 13 to 15, and at what is no kind.
-/
import Derived.Test.YtmmlhmhlfmafgaaInsF
namespace Go.Proofs.Ytmmlhmhlfmafgaa.InsI
open Go.ChangeShapes Go.WideShapes Go.ChangeAt Go.RowKit Ins
set_option maxHeartbeats 4000000 in
theorem insOk_13 (d a k : Int) (w : World) : Calls Try.prog 32 #[.agg #[.int .i64 13, .int .i64 d, .int .i64 a, .int .i64 k]] w fun e w' => e = .returned (.bool (okB 13 d a k)) ∧ Below w.heap.size w w' := by
  have m1 := go_ok_m a
  have m2 := go_plain_m a
  have q1 := go_ok a
  have q2 := go_plain a
  have HK := hide (ok_13 d a k)
  generalize (inB a 0 3) = b at q1 HK
  have B0 : Below w.heap.size w (w.alloc (.cells #[.int .i64 13, .int .i64 d, .int .i64 a, .int .i64 k] 33)) := (Below.refl _ _).alloc (Nat.le_refl _) _
  go_enter Try.func32, Try.ntmps32
  go_wp2_with fail
  refine (formOf_13 d a k _).mono ?_
  rintro e w1 ⟨rfl, hb⟩
  have B1 := (B0.trans (hb.mono B0.size)).drew
  have c0 : w1.cell? ⟨w.heap.size, 0, none⟩ = some (.int .i64 13) := cell_below hb (by simp)
  have c1 : w1.cell? ⟨w.heap.size, 1, none⟩ = some (.int .i64 d) := cell_below hb (by simp)
  have c2 : w1.cell? ⟨w.heap.size, 2, none⟩ = some (.int .i64 a) := cell_below hb (by simp)
  have c3 : w1.cell? ⟨w.heap.size, 3, none⟩ = some (.int .i64 k) := cell_below hb (by simp)
  clear hb B0
  go_wp2_with fail
  cases b with
  | false =>
    first | (go_region_with (go_at_call 72; refine (q1 _).mono ?_; rintro e w2 ⟨rfl, hb2⟩)) | fail
    all_goals
      clear c0 c1 c2 c3
      have B2 := B1.trans (hb2.mono B1.size)
      clear hb2 B1 q1 q2 m1 m2
      go_wp2
      go_ret
      exact ⟨ret_bool (by rw [HK.out]; rfl), B2⟩
  | true =>
    by_cases e_d : d = 0
    · subst e_d
      by_cases e_k : k = 0
      · subst e_k
        first | (go_region_with (first | (go_at_call 72; refine (q1 _).mono ?_; rintro e w2 ⟨rfl, hb2⟩; replace c0 := cell_below hb2 c0; replace c1 := cell_below hb2 c1; replace c2 := cell_below hb2 c2; replace c3 := cell_below hb2 c3) | (go_at_call 73; refine (q2 _).mono ?_; rintro e w3 ⟨rfl, hb3⟩; replace c0 := cell_below hb3 c0; replace c1 := cell_below hb3 c1; replace c2 := cell_below hb3 c2; replace c3 := cell_below hb3 c3))) | fail
        all_goals
          clear c0 c1 c2 c3
          have B2 := B1.trans (hb2.mono B1.size)
          have B3 := B2.trans (hb3.mono B2.size)
          clear hb2 hb3 B1 B2 q1 q2 m1 m2
          go_wp2
          go_ret
          refine ⟨ret_bool ?_, B3⟩
          rw [HK.out]
          clear HK B3
          first | rfl | (rw [Bool.eq_iff_iff]; simp; omega) | (rw [Bool.eq_iff_iff]; simp; done)
      · have n_k : ((0 : Int) == k) = false := beq_eq_false_iff_ne.2 (Ne.symm e_k)
        first | (go_region_with (first | (go_at_call 72; refine (q1 _).mono ?_; rintro e w2 ⟨rfl, hb2⟩; replace c0 := cell_below hb2 c0; replace c1 := cell_below hb2 c1; replace c2 := cell_below hb2 c2; replace c3 := cell_below hb2 c3) | (go_at_call 73; refine (q2 _).mono ?_; rintro e w3 ⟨rfl, hb3⟩; replace c0 := cell_below hb3 c0; replace c1 := cell_below hb3 c1; replace c2 := cell_below hb3 c2; replace c3 := cell_below hb3 c3))) | fail
        all_goals
          clear c0 c1 c2 c3
          have B2 := B1.trans (hb2.mono B1.size)
          have B3 := B2.trans (hb3.mono B2.size)
          clear hb2 hb3 B1 B2 q1 q2 m1 m2
          go_wp2
          go_ret
          refine ⟨ret_bool ?_, B3⟩
          rw [HK.out]
          clear HK B3
          first | rfl | (rw [Bool.eq_iff_iff]; simp; omega) | (rw [Bool.eq_iff_iff]; simp; done)
    · have n_d : ((0 : Int) == d) = false := beq_eq_false_iff_ne.2 (Ne.symm e_d)
      first | (go_region_with (first | (go_at_call 72; refine (q1 _).mono ?_; rintro e w2 ⟨rfl, hb2⟩; replace c0 := cell_below hb2 c0; replace c1 := cell_below hb2 c1; replace c2 := cell_below hb2 c2; replace c3 := cell_below hb2 c3) | (go_at_call 73; refine (q2 _).mono ?_; rintro e w3 ⟨rfl, hb3⟩; replace c0 := cell_below hb3 c0; replace c1 := cell_below hb3 c1; replace c2 := cell_below hb3 c2; replace c3 := cell_below hb3 c3))) | fail
      all_goals
        clear c0 c1 c2 c3
        have B2 := B1.trans (hb2.mono B1.size)
        have B3 := B2.trans (hb3.mono B2.size)
        clear hb2 hb3 B1 B2 q1 q2 m1 m2
        go_wp2
        go_ret
        refine ⟨ret_bool ?_, B3⟩
        rw [HK.out]
        clear HK B3
        first | rfl | (rw [Bool.eq_iff_iff]; simp; omega) | (rw [Bool.eq_iff_iff]; simp; done)
set_option maxHeartbeats 4000000 in
theorem insOk_14 (d a k : Int) (w : World) : Calls Try.prog 32 #[.agg #[.int .i64 14, .int .i64 d, .int .i64 a, .int .i64 k]] w fun e w' => e = .returned (.bool (okB 14 d a k)) ∧ Below w.heap.size w w' := by
  have m1 := pass_ok_m 14 d
  have m2 := pass_plain_m 14 d
  have q1 := pass_ok 14 d
  have q2 := pass_plain 14 d
  have HK := hide (ok_14 d a k)
  generalize (inB d 0 3) = b at q1 HK
  have B0 : Below w.heap.size w (w.alloc (.cells #[.int .i64 14, .int .i64 d, .int .i64 a, .int .i64 k] 33)) := (Below.refl _ _).alloc (Nat.le_refl _) _
  go_enter Try.func32, Try.ntmps32
  go_wp2_with fail
  refine (formOf_14 d a k _).mono ?_
  rintro e w1 ⟨rfl, hb⟩
  have B1 := (B0.trans (hb.mono B0.size)).drew
  have c0 : w1.cell? ⟨w.heap.size, 0, none⟩ = some (.int .i64 14) := cell_below hb (by simp)
  have c1 : w1.cell? ⟨w.heap.size, 1, none⟩ = some (.int .i64 d) := cell_below hb (by simp)
  have c2 : w1.cell? ⟨w.heap.size, 2, none⟩ = some (.int .i64 a) := cell_below hb (by simp)
  have c3 : w1.cell? ⟨w.heap.size, 3, none⟩ = some (.int .i64 k) := cell_below hb (by simp)
  clear hb B0
  go_wp2_with fail
  cases b with
  | false =>
    first | (go_region_with (go_at_call 74; refine (q1 _).mono ?_; rintro e w2 ⟨rfl, hb2⟩)) | fail
    all_goals
      clear c0 c1 c2 c3
      have B2 := B1.trans (hb2.mono B1.size)
      clear hb2 B1 q1 q2 m1 m2
      go_wp2
      go_ret
      exact ⟨ret_bool (by rw [HK.out]; rfl), B2⟩
  | true =>
    by_cases e_a : a = 0
    · subst e_a
      by_cases e_k : k = 0
      · subst e_k
        first | (go_region_with (first | (go_at_call 74; refine (q1 _).mono ?_; rintro e w2 ⟨rfl, hb2⟩; replace c0 := cell_below hb2 c0; replace c1 := cell_below hb2 c1; replace c2 := cell_below hb2 c2; replace c3 := cell_below hb2 c3) | (go_at_call 75; refine (q2 _).mono ?_; rintro e w3 ⟨rfl, hb3⟩; replace c0 := cell_below hb3 c0; replace c1 := cell_below hb3 c1; replace c2 := cell_below hb3 c2; replace c3 := cell_below hb3 c3))) | fail
        all_goals
          clear c0 c1 c2 c3
          have B2 := B1.trans (hb2.mono B1.size)
          have B3 := B2.trans (hb3.mono B2.size)
          clear hb2 hb3 B1 B2 q1 q2 m1 m2
          go_wp2
          go_ret
          refine ⟨ret_bool ?_, B3⟩
          rw [HK.out]
          clear HK B3
          first | rfl | (rw [Bool.eq_iff_iff]; simp; omega) | (rw [Bool.eq_iff_iff]; simp; done)
      · have n_k : ((0 : Int) == k) = false := beq_eq_false_iff_ne.2 (Ne.symm e_k)
        first | (go_region_with (first | (go_at_call 74; refine (q1 _).mono ?_; rintro e w2 ⟨rfl, hb2⟩; replace c0 := cell_below hb2 c0; replace c1 := cell_below hb2 c1; replace c2 := cell_below hb2 c2; replace c3 := cell_below hb2 c3) | (go_at_call 75; refine (q2 _).mono ?_; rintro e w3 ⟨rfl, hb3⟩; replace c0 := cell_below hb3 c0; replace c1 := cell_below hb3 c1; replace c2 := cell_below hb3 c2; replace c3 := cell_below hb3 c3))) | fail
        all_goals
          clear c0 c1 c2 c3
          have B2 := B1.trans (hb2.mono B1.size)
          have B3 := B2.trans (hb3.mono B2.size)
          clear hb2 hb3 B1 B2 q1 q2 m1 m2
          go_wp2
          go_ret
          refine ⟨ret_bool ?_, B3⟩
          rw [HK.out]
          clear HK B3
          first | rfl | (rw [Bool.eq_iff_iff]; simp; omega) | (rw [Bool.eq_iff_iff]; simp; done)
    · have n_a : ((0 : Int) == a) = false := beq_eq_false_iff_ne.2 (Ne.symm e_a)
      first | (go_region_with (first | (go_at_call 74; refine (q1 _).mono ?_; rintro e w2 ⟨rfl, hb2⟩; replace c0 := cell_below hb2 c0; replace c1 := cell_below hb2 c1; replace c2 := cell_below hb2 c2; replace c3 := cell_below hb2 c3) | (go_at_call 75; refine (q2 _).mono ?_; rintro e w3 ⟨rfl, hb3⟩; replace c0 := cell_below hb3 c0; replace c1 := cell_below hb3 c1; replace c2 := cell_below hb3 c2; replace c3 := cell_below hb3 c3))) | fail
      all_goals
        clear c0 c1 c2 c3
        have B2 := B1.trans (hb2.mono B1.size)
        have B3 := B2.trans (hb3.mono B2.size)
        clear hb2 hb3 B1 B2 q1 q2 m1 m2
        go_wp2
        go_ret
        refine ⟨ret_bool ?_, B3⟩
        rw [HK.out]
        clear HK B3
        first | rfl | (rw [Bool.eq_iff_iff]; simp; omega) | (rw [Bool.eq_iff_iff]; simp; done)
set_option maxHeartbeats 4000000 in
theorem insOk_15 (d a k : Int) (w : World) : Calls Try.prog 32 #[.agg #[.int .i64 15, .int .i64 d, .int .i64 a, .int .i64 k]] w fun e w' => e = .returned (.bool (okB 15 d a k)) ∧ Below w.heap.size w w' := by
  have m1 := pass_ok_m 15 d
  have m2 := pass_plain_m 15 d
  have q1 := pass_ok 15 d
  have q2 := pass_plain 15 d
  have HK := hide (ok_15 d a k)
  generalize (inB d 0 3) = b at q1 HK
  have B0 : Below w.heap.size w (w.alloc (.cells #[.int .i64 15, .int .i64 d, .int .i64 a, .int .i64 k] 33)) := (Below.refl _ _).alloc (Nat.le_refl _) _
  go_enter Try.func32, Try.ntmps32
  go_wp2_with fail
  refine (formOf_15 d a k _).mono ?_
  rintro e w1 ⟨rfl, hb⟩
  have B1 := (B0.trans (hb.mono B0.size)).drew
  have c0 : w1.cell? ⟨w.heap.size, 0, none⟩ = some (.int .i64 15) := cell_below hb (by simp)
  have c1 : w1.cell? ⟨w.heap.size, 1, none⟩ = some (.int .i64 d) := cell_below hb (by simp)
  have c2 : w1.cell? ⟨w.heap.size, 2, none⟩ = some (.int .i64 a) := cell_below hb (by simp)
  have c3 : w1.cell? ⟨w.heap.size, 3, none⟩ = some (.int .i64 k) := cell_below hb (by simp)
  clear hb B0
  go_wp2_with fail
  cases b with
  | false =>
    first | (go_region_with (go_at_call 74; refine (q1 _).mono ?_; rintro e w2 ⟨rfl, hb2⟩)) | fail
    all_goals
      clear c0 c1 c2 c3
      have B2 := B1.trans (hb2.mono B1.size)
      clear hb2 B1 q1 q2 m1 m2
      go_wp2
      go_ret
      exact ⟨ret_bool (by rw [HK.out]; rfl), B2⟩
  | true =>
    by_cases e_a : a = 0
    · subst e_a
      by_cases e_k : k = 0
      · subst e_k
        first | (go_region_with (first | (go_at_call 74; refine (q1 _).mono ?_; rintro e w2 ⟨rfl, hb2⟩; replace c0 := cell_below hb2 c0; replace c1 := cell_below hb2 c1; replace c2 := cell_below hb2 c2; replace c3 := cell_below hb2 c3) | (go_at_call 75; refine (q2 _).mono ?_; rintro e w3 ⟨rfl, hb3⟩; replace c0 := cell_below hb3 c0; replace c1 := cell_below hb3 c1; replace c2 := cell_below hb3 c2; replace c3 := cell_below hb3 c3))) | fail
        all_goals
          clear c0 c1 c2 c3
          have B2 := B1.trans (hb2.mono B1.size)
          have B3 := B2.trans (hb3.mono B2.size)
          clear hb2 hb3 B1 B2 q1 q2 m1 m2
          go_wp2
          go_ret
          refine ⟨ret_bool ?_, B3⟩
          rw [HK.out]
          clear HK B3
          first | rfl | (rw [Bool.eq_iff_iff]; simp; omega) | (rw [Bool.eq_iff_iff]; simp; done)
      · have n_k : ((0 : Int) == k) = false := beq_eq_false_iff_ne.2 (Ne.symm e_k)
        first | (go_region_with (first | (go_at_call 74; refine (q1 _).mono ?_; rintro e w2 ⟨rfl, hb2⟩; replace c0 := cell_below hb2 c0; replace c1 := cell_below hb2 c1; replace c2 := cell_below hb2 c2; replace c3 := cell_below hb2 c3) | (go_at_call 75; refine (q2 _).mono ?_; rintro e w3 ⟨rfl, hb3⟩; replace c0 := cell_below hb3 c0; replace c1 := cell_below hb3 c1; replace c2 := cell_below hb3 c2; replace c3 := cell_below hb3 c3))) | fail
        all_goals
          clear c0 c1 c2 c3
          have B2 := B1.trans (hb2.mono B1.size)
          have B3 := B2.trans (hb3.mono B2.size)
          clear hb2 hb3 B1 B2 q1 q2 m1 m2
          go_wp2
          go_ret
          refine ⟨ret_bool ?_, B3⟩
          rw [HK.out]
          clear HK B3
          first | rfl | (rw [Bool.eq_iff_iff]; simp; omega) | (rw [Bool.eq_iff_iff]; simp; done)
    · have n_a : ((0 : Int) == a) = false := beq_eq_false_iff_ne.2 (Ne.symm e_a)
      first | (go_region_with (first | (go_at_call 74; refine (q1 _).mono ?_; rintro e w2 ⟨rfl, hb2⟩; replace c0 := cell_below hb2 c0; replace c1 := cell_below hb2 c1; replace c2 := cell_below hb2 c2; replace c3 := cell_below hb2 c3) | (go_at_call 75; refine (q2 _).mono ?_; rintro e w3 ⟨rfl, hb3⟩; replace c0 := cell_below hb3 c0; replace c1 := cell_below hb3 c1; replace c2 := cell_below hb3 c2; replace c3 := cell_below hb3 c3))) | fail
      all_goals
        clear c0 c1 c2 c3
        have B2 := B1.trans (hb2.mono B1.size)
        have B3 := B2.trans (hb3.mono B2.size)
        clear hb2 hb3 B1 B2 q1 q2 m1 m2
        go_wp2
        go_ret
        refine ⟨ret_bool ?_, B3⟩
        rw [HK.out]
        clear HK B3
        first | rfl | (rw [Bool.eq_iff_iff]; simp; omega) | (rw [Bool.eq_iff_iff]; simp; done)
set_option maxHeartbeats 4000000 in
theorem insOk_no (op d a k : Int) (w : World) (h : ¬ (0 ≤ op ∧ op ≤ 15)) : Calls Try.prog 32 #[.agg #[.int .i64 op, .int .i64 d, .int .i64 a, .int .i64 k]] w fun e w' => e = .returned (.bool (okB op d a k)) ∧ Below w.heap.size w w' := by
  have m1 := no_ok_m
  have q1 := no_ok
  have HK : Hid (okB op d a k = false) := show _ = _ by
    have : inB op 0 15 = false := decide_eq_false h
    unfold okB
    rw [this]
    rfl
  have B0 : Below w.heap.size w (w.alloc (.cells #[.int .i64 op, .int .i64 d, .int .i64 a, .int .i64 k] 33)) := (Below.refl _ _).alloc (Nat.le_refl _) _
  go_enter Try.func32, Try.ntmps32
  go_wp2_with fail
  refine (formOf_no op d a k _ h).mono ?_
  rintro e w1 ⟨rfl, hb⟩
  have B1 := (B0.trans (hb.mono B0.size)).drew
  clear hb B0 h
  go_wp2_with fail
  first | (go_region_with (go_at_call 76; refine (q1 _).mono ?_; rintro e w2 ⟨rfl, hb2⟩)) | fail
  all_goals
    have B2 := B1.trans (hb2.mono B1.size)
    clear hb2 B1 q1 m1
    go_wp2
    go_ret
    exact ⟨ret_bool (by rw [HK.out]), B2⟩
end Go.Proofs.Ytmmlhmhlfmafgaa.InsI
