/-
  Contracts of the program's functions of chapter 2 without texts (InsOk, InsPut, InsTake, InsEnds), each at every argument.
-/
import Derived.Test.YtmmlhmhlfmafgaaInsC2
import Derived.Test.YtmmlhmhlfmafgaaInsIa
import Derived.Test.YtmmlhmhlfmafgaaInsIb
import Derived.Test.YtmmlhmhlfmafgaaInsIc
namespace Go.Proofs.Ytmmlhmhlfmafgaa.InsI
open Go.ChangeShapes Go.WideShapes Go.ChangeAt Go.RowKit Ins
theorem insOk (op d a k : Int) (w : World) : Calls Try.prog 32 #[.agg #[.int .i64 op, .int .i64 d, .int .i64 a, .int .i64 k]] w fun e w' => e = .returned (.bool (okB op d a k)) ∧ Below w.heap.size w w' := by
  by_cases h : 0 ≤ op ∧ op ≤ 15
  · have h : op = 0 ∨ op = 1 ∨ op = 2 ∨ op = 3 ∨ op = 4 ∨ op = 5 ∨ op = 6 ∨ op = 7 ∨ op = 8 ∨ op = 9 ∨ op = 10 ∨ op = 11 ∨ op = 12 ∨ op = 13 ∨ op = 14 ∨ op = 15 := by omega
    rcases h with rfl | rfl | rfl | rfl | rfl | rfl | rfl | rfl | rfl | rfl | rfl | rfl | rfl | rfl | rfl | rfl
    · exact insOk_0 d a k w
    · exact insOk_1 d a k w
    · exact insOk_2 d a k w
    · exact insOk_3 d a k w
    · exact insOk_4 d a k w
    · exact insOk_5 d a k w
    · exact insOk_6 d a k w
    · exact insOk_7 d a k w
    · exact insOk_8 d a k w
    · exact insOk_9 d a k w
    · exact insOk_10 d a k w
    · exact insOk_11 d a k w
    · exact insOk_12 d a k w
    · exact insOk_13 d a k w
    · exact insOk_14 d a k w
    · exact insOk_15 d a k w
  · exact insOk_no op d a k w h
set_option maxHeartbeats 1000000 in
theorem insPut (op d a k : Int) (w : World) : Calls Try.prog 25 #[.agg #[.int .i64 op, .int .i64 d, .int .i64 a, .int .i64 k]] w fun e w' => e = .returned (.int .i64 (putN op d a k)) ∧ Below w.heap.size w w' := by
  have B0 : Below w.heap.size w (w.alloc (.cells #[.int .i64 op, .int .i64 d, .int .i64 a, .int .i64 k] 33)) := (Below.refl _ _).alloc (Nat.le_refl _) _
  go_enter Try.func25, Try.ntmps25
  go_wp2_with fail
  refine (insOk op d a k _).mono ?_
  rintro e w1 ⟨rfl, hb⟩
  have B1 := B0.trans (hb.mono B0.size)
  cases h : okB op d a k with
  | false =>
    go_wp2
    go_ret
    exact ⟨ret_int (by simp [putN, h]), B1⟩
  | true =>
    have H : Hid (putN op d a k = op * 4096 + d * 1024 + a * 256 + k) := show _ = _ by simp [putN, h]
    obtain ⟨o0, o1, d0, d1, a0, a1, k0, k1, _⟩ := okB_bd h
    have c0 : w1.cell? ⟨w.heap.size, 0, none⟩ = some (.int .i64 op) := cell_below hb (by simp)
    have c1 : w1.cell? ⟨w.heap.size, 1, none⟩ = some (.int .i64 d) := cell_below hb (by simp)
    have c2 : w1.cell? ⟨w.heap.size, 2, none⟩ = some (.int .i64 a) := cell_below hb (by simp)
    have c3 : w1.cell? ⟨w.heap.size, 3, none⟩ = some (.int .i64 k) := cell_below hb (by simp)
    clear h hb B0
    go_wp2
    go_ret
    exact ⟨ret_int (by rw [H.out]), B1⟩

theorem implOk_t (n : Int) (w : World) (h0 : 0 ≤ n) (h1 : n < 65536) : Calls Try.prog 31 #[.int .i64 n] w fun e w' => e = .returned (.bool true) ∧ w' = w := by
  go_enter Try.func31, Try.ntmps31
  go_wp2
  go_ret
  exact ⟨rfl, rfl⟩
theorem implOk_f (n : Int) (w : World) (h : ¬ (0 ≤ n ∧ n < 65536)) : Calls Try.prog 31 #[.int .i64 n] w fun e w' => e = .returned (.bool false) ∧ w' = w := by
  by_cases h0 : 0 ≤ n
  · have h1 : ¬ n < 65536 := by omega
    go_enter Try.func31, Try.ntmps31
    go_wp2
    go_ret
    exact ⟨rfl, rfl⟩
  · go_enter Try.func31, Try.ntmps31
    go_wp2
    go_ret
    exact ⟨rfl, rfl⟩
set_option maxHeartbeats 1000000 in
theorem insTake (n : Int) (w : World) : Calls Try.prog 26 #[.int .i64 n] w fun e w' => e = .returned (.tuple #[.agg (takeC n), .bool (takeB n)]) ∧ Below w.heap.size w w' := by
  by_cases hn : 0 ≤ n ∧ n < 65536
  · go_enter Try.func26, Try.ntmps26
    go_wp2_with fail
    refine (implOk_t n _ hn.1 hn.2).mono ?_
    rintro e w1 ⟨rfl, rfl⟩
    go_wp2_with fail
    refine (insOk (n / 4096) (n / 1024 % 4) (n / 256 % 4) (n % 256) _).mono ?_
    rintro e w1 ⟨rfl, hb⟩
    have B0 : Below w.heap.size w w1 := (((Below.refl _ _).alloc (Nat.le_refl _) _).alloc (by simp) _).trans (hb.mono (by simp; omega))
    have hz : w.heap.size + 1 < w1.heap.size := by have := hb.size; simp at this; omega
    have c0 : w1.cell? ⟨w.heap.size, 0, none⟩ = some (.int .i64 0) := cell_below hb (by simp)
    have c1 : w1.cell? ⟨w.heap.size, 1, none⟩ = some (.int .i64 0) := cell_below hb (by simp)
    have c2 : w1.cell? ⟨w.heap.size, 2, none⟩ = some (.int .i64 0) := cell_below hb (by simp)
    have c3 : w1.cell? ⟨w.heap.size, 3, none⟩ = some (.int .i64 0) := cell_below hb (by simp)
    have f0 : w1.frozen? ⟨w.heap.size, 0, none⟩ = false := (hb.frozen (p := ⟨w.heap.size, 0, none⟩) (by simp; omega)).trans (by simp)
    have f1 : w1.frozen? ⟨w.heap.size, 1, none⟩ = false := (hb.frozen (p := ⟨w.heap.size, 1, none⟩) (by simp; omega)).trans (by simp)
    have f2 : w1.frozen? ⟨w.heap.size, 2, none⟩ = false := (hb.frozen (p := ⟨w.heap.size, 2, none⟩) (by simp; omega)).trans (by simp)
    have f3 : w1.frozen? ⟨w.heap.size, 3, none⟩ = false := (hb.frozen (p := ⟨w.heap.size, 3, none⟩) (by simp; omega)).trans (by simp)
    have i0 : w1.cell? ⟨w.heap.size + 1, 0, none⟩ = some (.int .i64 (n / 4096)) := cell_below hb (by simp)
    have i1 : w1.cell? ⟨w.heap.size + 1, 1, none⟩ = some (.int .i64 (n / 1024 % 4)) := cell_below hb (by simp)
    have i2 : w1.cell? ⟨w.heap.size + 1, 2, none⟩ = some (.int .i64 (n / 256 % 4)) := cell_below hb (by simp)
    have i3 : w1.cell? ⟨w.heap.size + 1, 3, none⟩ = some (.int .i64 (n % 256)) := cell_below hb (by simp)
    cases hk : okB (n / 4096) (n / 1024 % 4) (n / 256 % 4) (n % 256) with
    | false =>
      have hB : takeB n = false := by unfold takeB; rw [hk]; simp
      have HC : Hid (takeC n = #[.int .i64 0, .int .i64 0, .int .i64 0, .int .i64 0]) := show _ = _ by unfold takeC; rw [hB]; rfl
      have HB : Hid (takeB n = false) := hB
      clear hB hk hb
      go_wp2
      exact bodyPost_ret (v := .tuple #[.agg #[.int .i64 0, .int .i64 0, .int .i64 0, .int .i64 0], .bool false]) (by simp [results, Try.results26, go_sem, c0, c1, c2, c3]) rfl ⟨by rw [HB.out, HC.out], (((B0.setCell (Nat.le_refl _) _).setCell (Nat.le_refl _) _).setCell (Nat.le_refl _) _).setCell (Nat.le_refl _) _⟩
    | true =>
      have hB : takeB n = true := by unfold takeB; rw [hk, decide_eq_true hn]; rfl
      have HC : Hid (takeC n = #[.int .i64 (n / 4096), .int .i64 (n / 1024 % 4), .int .i64 (n / 256 % 4), .int .i64 (n % 256)]) := show _ = _ by unfold takeC; rw [hB]; rfl
      have HB : Hid (takeB n = true) := hB
      clear hB hk hb
      go_wp2
      exact bodyPost_ret (v := .tuple #[.agg #[.int .i64 (n / 4096), .int .i64 (n / 1024 % 4), .int .i64 (n / 256 % 4), .int .i64 (n % 256)], .bool true]) (by simp [results, Try.results26, go_sem, c0, c1, c2, c3]) rfl ⟨by rw [HB.out, HC.out], (((B0.setCell (Nat.le_refl _) _).setCell (Nat.le_refl _) _).setCell (Nat.le_refl _) _).setCell (Nat.le_refl _) _⟩
  · have hf : takeB n = false := by unfold takeB; rw [decide_eq_false hn]; rfl
    have hc : takeC n = #[.int .i64 0, .int .i64 0, .int .i64 0, .int .i64 0] := by unfold takeC; rw [hf]; rfl
    rw [hf, hc]
    clear hf hc
    go_enter Try.func26, Try.ntmps26
    go_wp2_with fail
    refine (implOk_f n _ hn).mono ?_
    rintro e w1 ⟨rfl, rfl⟩
    go_wp2
    exact bodyPost_ret (v := .tuple #[.agg #[.int .i64 0, .int .i64 0, .int .i64 0, .int .i64 0], .bool false]) (by simp [results, Try.results26, go_sem]) rfl ⟨rfl, (Below.refl _ _).alloc (Nat.le_refl _) _⟩

theorem insEnds (op : Int) (w : World) : Calls Try.prog 18 #[.int .i64 op] w fun e w' => e = .returned (.bool (endsB op)) ∧ w' = w := by
  unfold endsB
  by_cases e1 : op = 11
  · subst e1
    go_enter Try.func18, Try.ntmps18
    go_wp2
    go_ret
    exact ⟨rfl, rfl⟩
  have b1 : (op == 11) = false := beq_eq_false_iff_ne.2 e1
  by_cases e2 : op = 12
  · subst e2
    go_enter Try.func18, Try.ntmps18
    go_wp2
    go_ret
    exact ⟨rfl, rfl⟩
  have b2 : (op == 12) = false := beq_eq_false_iff_ne.2 e2
  by_cases e3 : op = 13
  · subst e3
    go_enter Try.func18, Try.ntmps18
    go_wp2
    go_ret
    exact ⟨rfl, rfl⟩
  have b3 : (op == 13) = false := beq_eq_false_iff_ne.2 e3
  rw [decide_eq_false (p := op = 11 ∨ op = 12 ∨ op = 13) (by omega)]
  go_enter Try.func18, Try.ntmps18
  go_wp2
  go_ret
  exact ⟨rfl, rfl⟩
end Go.Proofs.Ytmmlhmhlfmafgaa.InsI
