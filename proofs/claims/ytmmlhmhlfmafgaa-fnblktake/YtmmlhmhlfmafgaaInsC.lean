/-
  Contracts of the specification's functions of chapter 2 without texts (l1In, l2Form, InsOk, InsPut, InsTake, InsEnds), and of the laws' own toInsIns and eqInsIns, each at every argument.
-/
import Derived.Test.YtmmlhmhlfmafgaaShape
import Derived.Test.YtmmlhmhlfmafgaaProg
import Derived.WalkKit
import Derived.WalkSpells
import Derived.ProofKit
import Derived.OwnWalk
namespace Go.Proofs.Ytmmlhmhlfmafgaa.Ins
open Go.ChangeShapes Go.WideShapes Go.ChangeAt Go.RowKit

theorem four {l : List Value} (h : l.length = 4) : ∃ a b c d, l = [a, b, c, d] := by
  match l, h with
  | [a, b, c, d], _ => exact ⟨a, b, c, d, rfl⟩
theorem cells1 : Try.prog.cellsOf 3 = 1 := by kernel_rfl
def inB (n lo hi : Int) : Bool := decide (lo ≤ n ∧ n ≤ hi)
theorem inB_t {n lo hi : Int} (h : inB n lo hi = true) : lo ≤ n ∧ n ≤ hi := of_decide_eq_true h
theorem inB_f {n lo hi : Int} (h : inB n lo hi = false) : ¬ (lo ≤ n ∧ n ≤ hi) := of_decide_eq_false h
/-- What an instruction of a kind has. -/
def formB (op d a k : Int) : Bool :=
  if op = 0 then decide (d = 0 ∧ a = 0 ∧ k ≤ 3)
  else if op = 1 then decide (a = 0)
  else if op = 2 then decide (k = 0)
  else if 3 ≤ op ∧ op ≤ 7 then decide (k < 4)
  else if op = 8 then decide (k < 16)
  else if op = 13 then decide (d = 0 ∧ k = 0)
  else if op = 14 ∨ op = 15 then decide (a = 0 ∧ k = 0)
  else true
/-- An instruction is ok. -/
def okB (op d a k : Int) : Bool := inB op 0 15 && inB d 0 3 && inB a 0 3 && inB k 0 255 && formB op d a k

theorem l1In (n lo hi : Int) (w : World) : Calls Try.prog 29 #[.int .i64 n, .int .i64 lo, .int .i64 hi] w fun e w' => e = .returned (.bool (inB n lo hi)) ∧ w' = w := by
  unfold inB
  by_cases h0 : lo ≤ n
  · by_cases h1 : n ≤ hi
    · rw [decide_eq_true ⟨h0, h1⟩]
      go_enter Try.func29, Try.ntmps29
      go_wp2
      go_ret
      exact ⟨rfl, rfl⟩
    · rw [decide_eq_false (fun h => h1 h.2)]
      go_enter Try.func29, Try.ntmps29
      go_wp2
      go_ret
      exact ⟨rfl, rfl⟩
  · rw [decide_eq_false (fun h => h0 h.1)]
    go_enter Try.func29, Try.ntmps29
    go_wp2
    go_ret
    exact ⟨rfl, rfl⟩
theorem beq_dec (a b : Int) : (a == b) = decide (a = b) := by
  by_cases h : a = b <;> simp [h]
theorem ret_bool {a b : Bool} (h : a = b) : Ending.returned (.bool a) = .returned (.bool b) := by rw [h]
theorem l2Form_0 (d a k : Int) (w : World) : Calls Try.prog 30 #[.agg #[.int .i64 0, .int .i64 d, .int .i64 a, .int .i64 k]] w fun e w' => e = .returned (.bool (formB 0 d a k)) ∧ Below w.heap.size w w' := by
  obtain ⟨b, hb⟩ : ∃ b, formB 0 d a k = b := ⟨_, rfl⟩
  rw [hb]
  have HB : Hid (formB 0 d a k = b) := hb
  clear hb
  go_enter Try.func30, Try.ntmps30
  go_wp2
  all_goals
    go_ret
    refine ⟨ret_bool ?_, (Below.refl _ _).alloc (Nat.le_refl _) _⟩
    rw [← HB.out]
    clear HB
    first | (simp_all [formB]; done) | (simp_all [formB]; exact beq_dec _ _)
theorem l2Form_1 (d a k : Int) (w : World) : Calls Try.prog 30 #[.agg #[.int .i64 1, .int .i64 d, .int .i64 a, .int .i64 k]] w fun e w' => e = .returned (.bool (formB 1 d a k)) ∧ Below w.heap.size w w' := by
  obtain ⟨b, hb⟩ : ∃ b, formB 1 d a k = b := ⟨_, rfl⟩
  rw [hb]
  have HB : Hid (formB 1 d a k = b) := hb
  clear hb
  go_enter Try.func30, Try.ntmps30
  go_wp2
  all_goals
    go_ret
    refine ⟨ret_bool ?_, (Below.refl _ _).alloc (Nat.le_refl _) _⟩
    rw [← HB.out]
    clear HB
    first | (simp_all [formB]; done) | (simp_all [formB]; exact beq_dec _ _)
theorem l2Form_2 (d a k : Int) (w : World) : Calls Try.prog 30 #[.agg #[.int .i64 2, .int .i64 d, .int .i64 a, .int .i64 k]] w fun e w' => e = .returned (.bool (formB 2 d a k)) ∧ Below w.heap.size w w' := by
  obtain ⟨b, hb⟩ : ∃ b, formB 2 d a k = b := ⟨_, rfl⟩
  rw [hb]
  have HB : Hid (formB 2 d a k = b) := hb
  clear hb
  go_enter Try.func30, Try.ntmps30
  go_wp2
  all_goals
    go_ret
    refine ⟨ret_bool ?_, (Below.refl _ _).alloc (Nat.le_refl _) _⟩
    rw [← HB.out]
    clear HB
    first | (simp_all [formB]; done) | (simp_all [formB]; exact beq_dec _ _)
theorem l2Form_3 (d a k : Int) (w : World) : Calls Try.prog 30 #[.agg #[.int .i64 3, .int .i64 d, .int .i64 a, .int .i64 k]] w fun e w' => e = .returned (.bool (formB 3 d a k)) ∧ Below w.heap.size w w' := by
  obtain ⟨b, hb⟩ : ∃ b, formB 3 d a k = b := ⟨_, rfl⟩
  rw [hb]
  have HB : Hid (formB 3 d a k = b) := hb
  clear hb
  go_enter Try.func30, Try.ntmps30
  go_wp2
  all_goals
    go_ret
    refine ⟨ret_bool ?_, (Below.refl _ _).alloc (Nat.le_refl _) _⟩
    rw [← HB.out]
    clear HB
    first | (simp_all [formB]; done) | (simp_all [formB]; exact beq_dec _ _)
theorem l2Form_4 (d a k : Int) (w : World) : Calls Try.prog 30 #[.agg #[.int .i64 4, .int .i64 d, .int .i64 a, .int .i64 k]] w fun e w' => e = .returned (.bool (formB 4 d a k)) ∧ Below w.heap.size w w' := by
  obtain ⟨b, hb⟩ : ∃ b, formB 4 d a k = b := ⟨_, rfl⟩
  rw [hb]
  have HB : Hid (formB 4 d a k = b) := hb
  clear hb
  go_enter Try.func30, Try.ntmps30
  go_wp2
  all_goals
    go_ret
    refine ⟨ret_bool ?_, (Below.refl _ _).alloc (Nat.le_refl _) _⟩
    rw [← HB.out]
    clear HB
    first | (simp_all [formB]; done) | (simp_all [formB]; exact beq_dec _ _)
theorem l2Form_5 (d a k : Int) (w : World) : Calls Try.prog 30 #[.agg #[.int .i64 5, .int .i64 d, .int .i64 a, .int .i64 k]] w fun e w' => e = .returned (.bool (formB 5 d a k)) ∧ Below w.heap.size w w' := by
  obtain ⟨b, hb⟩ : ∃ b, formB 5 d a k = b := ⟨_, rfl⟩
  rw [hb]
  have HB : Hid (formB 5 d a k = b) := hb
  clear hb
  go_enter Try.func30, Try.ntmps30
  go_wp2
  all_goals
    go_ret
    refine ⟨ret_bool ?_, (Below.refl _ _).alloc (Nat.le_refl _) _⟩
    rw [← HB.out]
    clear HB
    first | (simp_all [formB]; done) | (simp_all [formB]; exact beq_dec _ _)
theorem l2Form_6 (d a k : Int) (w : World) : Calls Try.prog 30 #[.agg #[.int .i64 6, .int .i64 d, .int .i64 a, .int .i64 k]] w fun e w' => e = .returned (.bool (formB 6 d a k)) ∧ Below w.heap.size w w' := by
  obtain ⟨b, hb⟩ : ∃ b, formB 6 d a k = b := ⟨_, rfl⟩
  rw [hb]
  have HB : Hid (formB 6 d a k = b) := hb
  clear hb
  go_enter Try.func30, Try.ntmps30
  go_wp2
  all_goals
    go_ret
    refine ⟨ret_bool ?_, (Below.refl _ _).alloc (Nat.le_refl _) _⟩
    rw [← HB.out]
    clear HB
    first | (simp_all [formB]; done) | (simp_all [formB]; exact beq_dec _ _)
theorem l2Form_7 (d a k : Int) (w : World) : Calls Try.prog 30 #[.agg #[.int .i64 7, .int .i64 d, .int .i64 a, .int .i64 k]] w fun e w' => e = .returned (.bool (formB 7 d a k)) ∧ Below w.heap.size w w' := by
  obtain ⟨b, hb⟩ : ∃ b, formB 7 d a k = b := ⟨_, rfl⟩
  rw [hb]
  have HB : Hid (formB 7 d a k = b) := hb
  clear hb
  go_enter Try.func30, Try.ntmps30
  go_wp2
  all_goals
    go_ret
    refine ⟨ret_bool ?_, (Below.refl _ _).alloc (Nat.le_refl _) _⟩
    rw [← HB.out]
    clear HB
    first | (simp_all [formB]; done) | (simp_all [formB]; exact beq_dec _ _)
theorem l2Form_8 (d a k : Int) (w : World) : Calls Try.prog 30 #[.agg #[.int .i64 8, .int .i64 d, .int .i64 a, .int .i64 k]] w fun e w' => e = .returned (.bool (formB 8 d a k)) ∧ Below w.heap.size w w' := by
  obtain ⟨b, hb⟩ : ∃ b, formB 8 d a k = b := ⟨_, rfl⟩
  rw [hb]
  have HB : Hid (formB 8 d a k = b) := hb
  clear hb
  go_enter Try.func30, Try.ntmps30
  go_wp2
  all_goals
    go_ret
    refine ⟨ret_bool ?_, (Below.refl _ _).alloc (Nat.le_refl _) _⟩
    rw [← HB.out]
    clear HB
    first | (simp_all [formB]; done) | (simp_all [formB]; exact beq_dec _ _)
theorem l2Form_9 (d a k : Int) (w : World) : Calls Try.prog 30 #[.agg #[.int .i64 9, .int .i64 d, .int .i64 a, .int .i64 k]] w fun e w' => e = .returned (.bool (formB 9 d a k)) ∧ Below w.heap.size w w' := by
  obtain ⟨b, hb⟩ : ∃ b, formB 9 d a k = b := ⟨_, rfl⟩
  rw [hb]
  have HB : Hid (formB 9 d a k = b) := hb
  clear hb
  go_enter Try.func30, Try.ntmps30
  go_wp2
  all_goals
    go_ret
    refine ⟨ret_bool ?_, (Below.refl _ _).alloc (Nat.le_refl _) _⟩
    rw [← HB.out]
    clear HB
    first | (simp_all [formB]; done) | (simp_all [formB]; exact beq_dec _ _)
theorem l2Form_10 (d a k : Int) (w : World) : Calls Try.prog 30 #[.agg #[.int .i64 10, .int .i64 d, .int .i64 a, .int .i64 k]] w fun e w' => e = .returned (.bool (formB 10 d a k)) ∧ Below w.heap.size w w' := by
  obtain ⟨b, hb⟩ : ∃ b, formB 10 d a k = b := ⟨_, rfl⟩
  rw [hb]
  have HB : Hid (formB 10 d a k = b) := hb
  clear hb
  go_enter Try.func30, Try.ntmps30
  go_wp2
  all_goals
    go_ret
    refine ⟨ret_bool ?_, (Below.refl _ _).alloc (Nat.le_refl _) _⟩
    rw [← HB.out]
    clear HB
    first | (simp_all [formB]; done) | (simp_all [formB]; exact beq_dec _ _)
theorem l2Form_11 (d a k : Int) (w : World) : Calls Try.prog 30 #[.agg #[.int .i64 11, .int .i64 d, .int .i64 a, .int .i64 k]] w fun e w' => e = .returned (.bool (formB 11 d a k)) ∧ Below w.heap.size w w' := by
  obtain ⟨b, hb⟩ : ∃ b, formB 11 d a k = b := ⟨_, rfl⟩
  rw [hb]
  have HB : Hid (formB 11 d a k = b) := hb
  clear hb
  go_enter Try.func30, Try.ntmps30
  go_wp2
  all_goals
    go_ret
    refine ⟨ret_bool ?_, (Below.refl _ _).alloc (Nat.le_refl _) _⟩
    rw [← HB.out]
    clear HB
    first | (simp_all [formB]; done) | (simp_all [formB]; exact beq_dec _ _)
theorem l2Form_12 (d a k : Int) (w : World) : Calls Try.prog 30 #[.agg #[.int .i64 12, .int .i64 d, .int .i64 a, .int .i64 k]] w fun e w' => e = .returned (.bool (formB 12 d a k)) ∧ Below w.heap.size w w' := by
  obtain ⟨b, hb⟩ : ∃ b, formB 12 d a k = b := ⟨_, rfl⟩
  rw [hb]
  have HB : Hid (formB 12 d a k = b) := hb
  clear hb
  go_enter Try.func30, Try.ntmps30
  go_wp2
  all_goals
    go_ret
    refine ⟨ret_bool ?_, (Below.refl _ _).alloc (Nat.le_refl _) _⟩
    rw [← HB.out]
    clear HB
    first | (simp_all [formB]; done) | (simp_all [formB]; exact beq_dec _ _)
theorem l2Form_13 (d a k : Int) (w : World) : Calls Try.prog 30 #[.agg #[.int .i64 13, .int .i64 d, .int .i64 a, .int .i64 k]] w fun e w' => e = .returned (.bool (formB 13 d a k)) ∧ Below w.heap.size w w' := by
  obtain ⟨b, hb⟩ : ∃ b, formB 13 d a k = b := ⟨_, rfl⟩
  rw [hb]
  have HB : Hid (formB 13 d a k = b) := hb
  clear hb
  go_enter Try.func30, Try.ntmps30
  go_wp2
  all_goals
    go_ret
    refine ⟨ret_bool ?_, (Below.refl _ _).alloc (Nat.le_refl _) _⟩
    rw [← HB.out]
    clear HB
    first | (simp_all [formB]; done) | (simp_all [formB]; exact beq_dec _ _)
theorem l2Form_14 (d a k : Int) (w : World) : Calls Try.prog 30 #[.agg #[.int .i64 14, .int .i64 d, .int .i64 a, .int .i64 k]] w fun e w' => e = .returned (.bool (formB 14 d a k)) ∧ Below w.heap.size w w' := by
  obtain ⟨b, hb⟩ : ∃ b, formB 14 d a k = b := ⟨_, rfl⟩
  rw [hb]
  have HB : Hid (formB 14 d a k = b) := hb
  clear hb
  go_enter Try.func30, Try.ntmps30
  go_wp2
  all_goals
    go_ret
    refine ⟨ret_bool ?_, (Below.refl _ _).alloc (Nat.le_refl _) _⟩
    rw [← HB.out]
    clear HB
    first | (simp_all [formB]; done) | (simp_all [formB]; exact beq_dec _ _)
theorem l2Form_15 (d a k : Int) (w : World) : Calls Try.prog 30 #[.agg #[.int .i64 15, .int .i64 d, .int .i64 a, .int .i64 k]] w fun e w' => e = .returned (.bool (formB 15 d a k)) ∧ Below w.heap.size w w' := by
  obtain ⟨b, hb⟩ : ∃ b, formB 15 d a k = b := ⟨_, rfl⟩
  rw [hb]
  have HB : Hid (formB 15 d a k = b) := hb
  clear hb
  go_enter Try.func30, Try.ntmps30
  go_wp2
  all_goals
    go_ret
    refine ⟨ret_bool ?_, (Below.refl _ _).alloc (Nat.le_refl _) _⟩
    rw [← HB.out]
    clear HB
    first | (simp_all [formB]; done) | (simp_all [formB]; exact beq_dec _ _)
theorem l2Form (op d a k : Int) (w : World) (h0 : 0 ≤ op) (h1 : op ≤ 15) : Calls Try.prog 30 #[.agg #[.int .i64 op, .int .i64 d, .int .i64 a, .int .i64 k]] w fun e w' => e = .returned (.bool (formB op d a k)) ∧ Below w.heap.size w w' := by
  have h : op = 0 ∨ op = 1 ∨ op = 2 ∨ op = 3 ∨ op = 4 ∨ op = 5 ∨ op = 6 ∨ op = 7 ∨ op = 8 ∨ op = 9 ∨ op = 10 ∨ op = 11 ∨ op = 12 ∨ op = 13 ∨ op = 14 ∨ op = 15 := by omega
  rcases h with rfl | rfl | rfl | rfl | rfl | rfl | rfl | rfl | rfl | rfl | rfl | rfl | rfl | rfl | rfl | rfl
  · exact l2Form_0 d a k w
  · exact l2Form_1 d a k w
  · exact l2Form_2 d a k w
  · exact l2Form_3 d a k w
  · exact l2Form_4 d a k w
  · exact l2Form_5 d a k w
  · exact l2Form_6 d a k w
  · exact l2Form_7 d a k w
  · exact l2Form_8 d a k w
  · exact l2Form_9 d a k w
  · exact l2Form_10 d a k w
  · exact l2Form_11 d a k w
  · exact l2Form_12 d a k w
  · exact l2Form_13 d a k w
  · exact l2Form_14 d a k w
  · exact l2Form_15 d a k w

set_option maxHeartbeats 1000000 in
theorem insOk (op d a k : Int) (w : World) : Calls Try.prog 13 #[.agg #[.int .i64 op, .int .i64 d, .int .i64 a, .int .i64 k]] w fun e w' => e = .returned (.bool (okB op d a k)) ∧ Below w.heap.size w w' := by
  have B0 : Below w.heap.size w (w.alloc (.cells #[.int .i64 op, .int .i64 d, .int .i64 a, .int .i64 k] 33)) := (Below.refl _ _).alloc (Nat.le_refl _) _
  go_enter Try.func13, Try.ntmps13
  go_wp2_with fail
  refine (l1In op 0 15 _).mono ?_
  rintro e w1 ⟨rfl, rfl⟩
  cases b1 : inB op 0 15 with
  | false =>
    go_wp2
    go_ret
    exact ⟨ret_bool (by simp [okB, b1]), B0⟩
  | true =>
    go_wp2_with fail
    refine (l1In d 0 3 _).mono ?_
    rintro e w1 ⟨rfl, rfl⟩
    cases b2 : inB d 0 3 with
    | false =>
      go_wp2
      go_ret
      exact ⟨ret_bool (by simp [okB, b2]), B0⟩
    | true =>
      go_wp2_with fail
      refine (l1In a 0 3 _).mono ?_
      rintro e w1 ⟨rfl, rfl⟩
      cases b3 : inB a 0 3 with
      | false =>
        go_wp2
        go_ret
        exact ⟨ret_bool (by simp [okB, b3]), B0⟩
      | true =>
        go_wp2_with fail
        refine (l1In k 0 255 _).mono ?_
        rintro e w1 ⟨rfl, rfl⟩
        cases b4 : inB k 0 255 with
        | false =>
          go_wp2
          go_ret
          exact ⟨ret_bool (by simp [okB, b4]), B0⟩
        | true =>
          go_wp2_with fail
          refine (l2Form op d a k _ (inB_t b1).1 (inB_t b1).2).mono ?_
          rintro e w2 ⟨rfl, hb⟩
          have H : Hid (okB op d a k = formB op d a k) := show _ = _ by simp [okB, b1, b2, b3, b4]
          clear b1 b2 b3 b4
          go_wp2
          go_ret
          exact ⟨ret_bool (by rw [H.out]), B0.trans (hb.mono B0.size)⟩
/-- The word that says an instruction. -/
def putN (op d a k : Int) : Int := if okB op d a k then op * 4096 + d * 1024 + a * 256 + k else 0
theorem okB_bd {op d a k : Int} (h : okB op d a k = true) : 0 ≤ op ∧ op ≤ 15 ∧ 0 ≤ d ∧ d ≤ 3 ∧ 0 ≤ a ∧ a ≤ 3 ∧ 0 ≤ k ∧ k ≤ 255 ∧ formB op d a k = true := by
  unfold okB at h
  simp only [Bool.and_eq_true] at h
  obtain ⟨⟨⟨⟨h1, h2⟩, h3⟩, h4⟩, h5⟩ := h
  have := inB_t h1
  have := inB_t h2
  have := inB_t h3
  have := inB_t h4
  exact ⟨by omega, by omega, by omega, by omega, by omega, by omega, by omega, by omega, h5⟩
theorem ret_int {k : IntKind} {a b : Int} (h : a = b) : Ending.returned (.int k a) = .returned (.int k b) := by rw [h]
theorem cell_below {w w' : World} (hb : Below w.heap.size w w') {p : Addr} {v : Value} (h : w.cell? p = some v) : w'.cell? p = some v := (hb.cell (World.block_lt_of_cell? w p h)).trans h
set_option maxHeartbeats 1000000 in
theorem insPut (op d a k : Int) (w : World) : Calls Try.prog 27 #[.agg #[.int .i64 op, .int .i64 d, .int .i64 a, .int .i64 k]] w fun e w' => e = .returned (.int .i64 (putN op d a k)) ∧ Below w.heap.size w w' := by
  have B0 : Below w.heap.size w (w.alloc (.cells #[.int .i64 op, .int .i64 d, .int .i64 a, .int .i64 k] 33)) := (Below.refl _ _).alloc (Nat.le_refl _) _
  go_enter Try.func27, Try.ntmps27
  go_wp2_with fail
  refine (insOk op d a k _).mono ?_
  rintro e w1 ⟨rfl, hb⟩
  have B1 := B0.trans (hb.mono B0.size)
  cases h : okB op d a k with
  | false =>
    go_wp2
    go_ret
    exact ⟨ret_int (by simp [putN, h]), B1⟩
  | true =>
    have H : Hid (putN op d a k = op * 4096 + d * 1024 + a * 256 + k) := show _ = _ by simp [putN, h]
    obtain ⟨o0, o1, d0, d1, a0, a1, k0, k1, _⟩ := okB_bd h
    have c0 : w1.cell? ⟨w.heap.size, 0, none⟩ = some (.int .i64 op) := cell_below hb (by simp)
    have c1 : w1.cell? ⟨w.heap.size, 1, none⟩ = some (.int .i64 d) := cell_below hb (by simp)
    have c2 : w1.cell? ⟨w.heap.size, 2, none⟩ = some (.int .i64 a) := cell_below hb (by simp)
    have c3 : w1.cell? ⟨w.heap.size, 3, none⟩ = some (.int .i64 k) := cell_below hb (by simp)
    clear h hb B0
    go_wp2
    go_ret
    exact ⟨ret_int (by rw [H.out]), B1⟩

end Go.Proofs.Ytmmlhmhlfmafgaa.Ins
