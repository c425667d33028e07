/-
  The program's forms of instructions: their methods and which form an instruction has, each at every argument.
-/
import Derived.Test.YtmmlhmhlfmafgaaInsC
import Derived.Deep.RegionWith
namespace Go.Proofs.Ytmmlhmhlfmafgaa.InsI
open Go.ChangeShapes Go.WideShapes Go.ChangeAt Go.RowKit Ins
theorem hide {p : Prop} (h : p) : Hid p := h
theorem stop_plain (k : Int) (w : World) : Calls Try.prog 57 #[.agg #[.int .i64 k]] w fun e w' => e = .returned (.agg #[.int .i64 0, .int .i64 0, .int .i64 0, .int .i64 k]) ∧ Below w.heap.size w w' := by
  go_enter Try.func57, Try.ntmps57
  go_wp2
  exact bodyPost_ret (v := .agg #[.int .i64 0, .int .i64 0, .int .i64 0, .int .i64 k]) (by simp [results, Try.results57, go_sem]) rfl ⟨rfl, ((Below.refl _ _).alloc (Nat.le_refl _) _).alloc (by simp) _⟩
theorem stop_ok (k : Int) (w : World) : Calls Try.prog 56 #[.agg #[.int .i64 k]] w fun e w' => e = .returned (.bool (inB k 0 3)) ∧ Below w.heap.size w w' := by
  obtain ⟨b, hb⟩ : ∃ b : Bool, (inB k 0 3) = b := ⟨_, rfl⟩
  rw [hb]
  have HB : Hid ((inB k 0 3) = b) := hb
  clear hb
  go_enter Try.func56, Try.ntmps56
  go_wp2
  all_goals
    go_ret
    refine ⟨ret_bool ?_, (Below.refl _ _).alloc (Nat.le_refl _) _⟩
    rw [← HB.out]
    clear HB
    first | rfl | (rw [Bool.eq_iff_iff]; simp [inB]; omega) | (rw [Bool.eq_iff_iff]; simp [inB]; done)
theorem stop_ok_m (k : Int) (w : World) : (method 196 61 (.agg #[.int .i64 k]) "loop.example/latimer/impl.ok").run Try.prog w = .ok (56, .agg #[.int .i64 k]) w := by kernel_rfl
theorem stop_plain_m (k : Int) (w : World) : (method 196 61 (.agg #[.int .i64 k]) "loop.example/latimer/impl.plain").run Try.prog w = .ok (57, .agg #[.int .i64 k]) w := by kernel_rfl
theorem set_plain (d k : Int) (w : World) : Calls Try.prog 59 #[.agg #[.int .i64 d, .int .i64 k]] w fun e w' => e = .returned (.agg #[.int .i64 1, .int .i64 d, .int .i64 0, .int .i64 k]) ∧ Below w.heap.size w w' := by
  go_enter Try.func59, Try.ntmps59
  go_wp2
  exact bodyPost_ret (v := .agg #[.int .i64 1, .int .i64 d, .int .i64 0, .int .i64 k]) (by simp [results, Try.results59, go_sem]) rfl ⟨rfl, ((Below.refl _ _).alloc (Nat.le_refl _) _).alloc (by simp) _⟩
theorem set_ok (d k : Int) (w : World) : Calls Try.prog 58 #[.agg #[.int .i64 d, .int .i64 k]] w fun e w' => e = .returned (.bool (inB d 0 3 && inB k 0 255)) ∧ Below w.heap.size w w' := by
  obtain ⟨b, hb⟩ : ∃ b : Bool, (inB d 0 3 && inB k 0 255) = b := ⟨_, rfl⟩
  rw [hb]
  have HB : Hid ((inB d 0 3 && inB k 0 255) = b) := hb
  clear hb
  go_enter Try.func58, Try.ntmps58
  go_wp2
  all_goals
    go_ret
    refine ⟨ret_bool ?_, (Below.refl _ _).alloc (Nat.le_refl _) _⟩
    rw [← HB.out]
    clear HB
    first | rfl | (rw [Bool.eq_iff_iff]; simp [inB]; omega) | (rw [Bool.eq_iff_iff]; simp [inB]; done)
theorem set_ok_m (d k : Int) (w : World) : (method 196 63 (.agg #[.int .i64 d, .int .i64 k]) "loop.example/latimer/impl.ok").run Try.prog w = .ok (58, .agg #[.int .i64 d, .int .i64 k]) w := by kernel_rfl
theorem set_plain_m (d k : Int) (w : World) : (method 196 63 (.agg #[.int .i64 d, .int .i64 k]) "loop.example/latimer/impl.plain").run Try.prog w = .ok (59, .agg #[.int .i64 d, .int .i64 k]) w := by kernel_rfl
theorem move_plain (d a : Int) (w : World) : Calls Try.prog 63 #[.agg #[.int .i64 d, .int .i64 a]] w fun e w' => e = .returned (.agg #[.int .i64 2, .int .i64 d, .int .i64 a, .int .i64 0]) ∧ Below w.heap.size w w' := by
  go_enter Try.func63, Try.ntmps63
  go_wp2
  exact bodyPost_ret (v := .agg #[.int .i64 2, .int .i64 d, .int .i64 a, .int .i64 0]) (by simp [results, Try.results63, go_sem]) rfl ⟨rfl, ((Below.refl _ _).alloc (Nat.le_refl _) _).alloc (by simp) _⟩
theorem move_ok (d a : Int) (w : World) : Calls Try.prog 62 #[.agg #[.int .i64 d, .int .i64 a]] w fun e w' => e = .returned (.bool (inB d 0 3 && inB a 0 3)) ∧ Below w.heap.size w w' := by
  obtain ⟨b, hb⟩ : ∃ b : Bool, (inB d 0 3 && inB a 0 3) = b := ⟨_, rfl⟩
  rw [hb]
  have HB : Hid ((inB d 0 3 && inB a 0 3) = b) := hb
  clear hb
  go_enter Try.func62, Try.ntmps62
  go_wp2
  all_goals
    go_ret
    refine ⟨ret_bool ?_, (Below.refl _ _).alloc (Nat.le_refl _) _⟩
    rw [← HB.out]
    clear HB
    first | rfl | (rw [Bool.eq_iff_iff]; simp [inB]; omega) | (rw [Bool.eq_iff_iff]; simp [inB]; done)
theorem move_ok_m (d a : Int) (w : World) : (method 196 65 (.agg #[.int .i64 d, .int .i64 a]) "loop.example/latimer/impl.ok").run Try.prog w = .ok (62, .agg #[.int .i64 d, .int .i64 a]) w := by kernel_rfl
theorem move_plain_m (d a : Int) (w : World) : (method 196 65 (.agg #[.int .i64 d, .int .i64 a]) "loop.example/latimer/impl.plain").run Try.prog w = .ok (63, .agg #[.int .i64 d, .int .i64 a]) w := by kernel_rfl
theorem reckon_plain (op d a k : Int) (w : World) : Calls Try.prog 65 #[.agg #[.int .i64 op, .int .i64 d, .int .i64 a, .int .i64 k]] w fun e w' => e = .returned (.agg #[.int .i64 op, .int .i64 d, .int .i64 a, .int .i64 k]) ∧ Below w.heap.size w w' := by
  go_enter Try.func65, Try.ntmps65
  go_wp2
  exact bodyPost_ret (v := .agg #[.int .i64 op, .int .i64 d, .int .i64 a, .int .i64 k]) (by simp [results, Try.results65, go_sem]) rfl ⟨rfl, ((Below.refl _ _).alloc (Nat.le_refl _) _).alloc (by simp) _⟩
theorem reckon_ok (op d a k : Int) (w : World) : Calls Try.prog 64 #[.agg #[.int .i64 op, .int .i64 d, .int .i64 a, .int .i64 k]] w fun e w' => e = .returned (.bool (inB d 0 3 && inB a 0 3 && inB k 0 3)) ∧ Below w.heap.size w w' := by
  obtain ⟨b, hb⟩ : ∃ b : Bool, (inB d 0 3 && inB a 0 3 && inB k 0 3) = b := ⟨_, rfl⟩
  rw [hb]
  have HB : Hid ((inB d 0 3 && inB a 0 3 && inB k 0 3) = b) := hb
  clear hb
  go_enter Try.func64, Try.ntmps64
  go_wp2
  all_goals
    go_ret
    refine ⟨ret_bool ?_, (Below.refl _ _).alloc (Nat.le_refl _) _⟩
    rw [← HB.out]
    clear HB
    first | rfl | (rw [Bool.eq_iff_iff]; simp [inB]; omega) | (rw [Bool.eq_iff_iff]; simp [inB]; done)
theorem reckon_ok_m (op d a k : Int) (w : World) : (method 196 67 (.agg #[.int .i64 op, .int .i64 d, .int .i64 a, .int .i64 k]) "loop.example/latimer/impl.ok").run Try.prog w = .ok (64, .agg #[.int .i64 op, .int .i64 d, .int .i64 a, .int .i64 k]) w := by kernel_rfl
theorem reckon_plain_m (op d a k : Int) (w : World) : (method 196 67 (.agg #[.int .i64 op, .int .i64 d, .int .i64 a, .int .i64 k]) "loop.example/latimer/impl.plain").run Try.prog w = .ok (65, .agg #[.int .i64 op, .int .i64 d, .int .i64 a, .int .i64 k]) w := by kernel_rfl
theorem shift_plain (d a k : Int) (w : World) : Calls Try.prog 67 #[.agg #[.int .i64 d, .int .i64 a, .int .i64 k]] w fun e w' => e = .returned (.agg #[.int .i64 8, .int .i64 d, .int .i64 a, .int .i64 k]) ∧ Below w.heap.size w w' := by
  go_enter Try.func67, Try.ntmps67
  go_wp2
  exact bodyPost_ret (v := .agg #[.int .i64 8, .int .i64 d, .int .i64 a, .int .i64 k]) (by simp [results, Try.results67, go_sem]) rfl ⟨rfl, ((Below.refl _ _).alloc (Nat.le_refl _) _).alloc (by simp) _⟩
theorem shift_ok (d a k : Int) (w : World) : Calls Try.prog 66 #[.agg #[.int .i64 d, .int .i64 a, .int .i64 k]] w fun e w' => e = .returned (.bool (inB d 0 3 && inB a 0 3 && inB k 0 15)) ∧ Below w.heap.size w w' := by
  obtain ⟨b, hb⟩ : ∃ b : Bool, (inB d 0 3 && inB a 0 3 && inB k 0 15) = b := ⟨_, rfl⟩
  rw [hb]
  have HB : Hid ((inB d 0 3 && inB a 0 3 && inB k 0 15) = b) := hb
  clear hb
  go_enter Try.func66, Try.ntmps66
  go_wp2
  all_goals
    go_ret
    refine ⟨ret_bool ?_, (Below.refl _ _).alloc (Nat.le_refl _) _⟩
    rw [← HB.out]
    clear HB
    first | rfl | (rw [Bool.eq_iff_iff]; simp [inB]; omega) | (rw [Bool.eq_iff_iff]; simp [inB]; done)
theorem shift_ok_m (d a k : Int) (w : World) : (method 196 69 (.agg #[.int .i64 d, .int .i64 a, .int .i64 k]) "loop.example/latimer/impl.ok").run Try.prog w = .ok (66, .agg #[.int .i64 d, .int .i64 a, .int .i64 k]) w := by kernel_rfl
theorem shift_plain_m (d a k : Int) (w : World) : (method 196 69 (.agg #[.int .i64 d, .int .i64 a, .int .i64 k]) "loop.example/latimer/impl.plain").run Try.prog w = .ok (67, .agg #[.int .i64 d, .int .i64 a, .int .i64 k]) w := by kernel_rfl
theorem reach_plain (op d a k : Int) (w : World) : Calls Try.prog 69 #[.agg #[.int .i64 op, .int .i64 d, .int .i64 a, .int .i64 k]] w fun e w' => e = .returned (.agg #[.int .i64 op, .int .i64 d, .int .i64 a, .int .i64 k]) ∧ Below w.heap.size w w' := by
  go_enter Try.func69, Try.ntmps69
  go_wp2
  exact bodyPost_ret (v := .agg #[.int .i64 op, .int .i64 d, .int .i64 a, .int .i64 k]) (by simp [results, Try.results69, go_sem]) rfl ⟨rfl, ((Below.refl _ _).alloc (Nat.le_refl _) _).alloc (by simp) _⟩
theorem reach_ok (op d a k : Int) (w : World) : Calls Try.prog 68 #[.agg #[.int .i64 op, .int .i64 d, .int .i64 a, .int .i64 k]] w fun e w' => e = .returned (.bool (inB d 0 3 && inB a 0 3 && inB k 0 255)) ∧ Below w.heap.size w w' := by
  obtain ⟨b, hb⟩ : ∃ b : Bool, (inB d 0 3 && inB a 0 3 && inB k 0 255) = b := ⟨_, rfl⟩
  rw [hb]
  have HB : Hid ((inB d 0 3 && inB a 0 3 && inB k 0 255) = b) := hb
  clear hb
  go_enter Try.func68, Try.ntmps68
  go_wp2
  all_goals
    go_ret
    refine ⟨ret_bool ?_, (Below.refl _ _).alloc (Nat.le_refl _) _⟩
    rw [← HB.out]
    clear HB
    first | rfl | (rw [Bool.eq_iff_iff]; simp [inB]; omega) | (rw [Bool.eq_iff_iff]; simp [inB]; done)
theorem reach_ok_m (op d a k : Int) (w : World) : (method 196 71 (.agg #[.int .i64 op, .int .i64 d, .int .i64 a, .int .i64 k]) "loop.example/latimer/impl.ok").run Try.prog w = .ok (68, .agg #[.int .i64 op, .int .i64 d, .int .i64 a, .int .i64 k]) w := by kernel_rfl
theorem reach_plain_m (op d a k : Int) (w : World) : (method 196 71 (.agg #[.int .i64 op, .int .i64 d, .int .i64 a, .int .i64 k]) "loop.example/latimer/impl.plain").run Try.prog w = .ok (69, .agg #[.int .i64 op, .int .i64 d, .int .i64 a, .int .i64 k]) w := by kernel_rfl
theorem ask_plain (op d a k : Int) (w : World) : Calls Try.prog 71 #[.agg #[.int .i64 op, .int .i64 d, .int .i64 a, .int .i64 k]] w fun e w' => e = .returned (.agg #[.int .i64 op, .int .i64 d, .int .i64 a, .int .i64 k]) ∧ Below w.heap.size w w' := by
  go_enter Try.func71, Try.ntmps71
  go_wp2
  exact bodyPost_ret (v := .agg #[.int .i64 op, .int .i64 d, .int .i64 a, .int .i64 k]) (by simp [results, Try.results71, go_sem]) rfl ⟨rfl, ((Below.refl _ _).alloc (Nat.le_refl _) _).alloc (by simp) _⟩
theorem ask_ok (op d a k : Int) (w : World) : Calls Try.prog 70 #[.agg #[.int .i64 op, .int .i64 d, .int .i64 a, .int .i64 k]] w fun e w' => e = .returned (.bool (inB d 0 3 && inB a 0 3 && inB k 0 255)) ∧ Below w.heap.size w w' := by
  obtain ⟨b, hb⟩ : ∃ b : Bool, (inB d 0 3 && inB a 0 3 && inB k 0 255) = b := ⟨_, rfl⟩
  rw [hb]
  have HB : Hid ((inB d 0 3 && inB a 0 3 && inB k 0 255) = b) := hb
  clear hb
  go_enter Try.func70, Try.ntmps70
  go_wp2
  all_goals
    go_ret
    refine ⟨ret_bool ?_, (Below.refl _ _).alloc (Nat.le_refl _) _⟩
    rw [← HB.out]
    clear HB
    first | rfl | (rw [Bool.eq_iff_iff]; simp [inB]; omega) | (rw [Bool.eq_iff_iff]; simp [inB]; done)
theorem ask_ok_m (op d a k : Int) (w : World) : (method 196 72 (.agg #[.int .i64 op, .int .i64 d, .int .i64 a, .int .i64 k]) "loop.example/latimer/impl.ok").run Try.prog w = .ok (70, .agg #[.int .i64 op, .int .i64 d, .int .i64 a, .int .i64 k]) w := by kernel_rfl
theorem ask_plain_m (op d a k : Int) (w : World) : (method 196 72 (.agg #[.int .i64 op, .int .i64 d, .int .i64 a, .int .i64 k]) "loop.example/latimer/impl.plain").run Try.prog w = .ok (71, .agg #[.int .i64 op, .int .i64 d, .int .i64 a, .int .i64 k]) w := by kernel_rfl
theorem go_plain (a : Int) (w : World) : Calls Try.prog 73 #[.agg #[.int .i64 a]] w fun e w' => e = .returned (.agg #[.int .i64 13, .int .i64 0, .int .i64 a, .int .i64 0]) ∧ Below w.heap.size w w' := by
  go_enter Try.func73, Try.ntmps73
  go_wp2
  exact bodyPost_ret (v := .agg #[.int .i64 13, .int .i64 0, .int .i64 a, .int .i64 0]) (by simp [results, Try.results73, go_sem]) rfl ⟨rfl, ((Below.refl _ _).alloc (Nat.le_refl _) _).alloc (by simp) _⟩
theorem go_ok (a : Int) (w : World) : Calls Try.prog 72 #[.agg #[.int .i64 a]] w fun e w' => e = .returned (.bool (inB a 0 3)) ∧ Below w.heap.size w w' := by
  obtain ⟨b, hb⟩ : ∃ b : Bool, (inB a 0 3) = b := ⟨_, rfl⟩
  rw [hb]
  have HB : Hid ((inB a 0 3) = b) := hb
  clear hb
  go_enter Try.func72, Try.ntmps72
  go_wp2
  all_goals
    go_ret
    refine ⟨ret_bool ?_, (Below.refl _ _).alloc (Nat.le_refl _) _⟩
    rw [← HB.out]
    clear HB
    first | rfl | (rw [Bool.eq_iff_iff]; simp [inB]; omega) | (rw [Bool.eq_iff_iff]; simp [inB]; done)
theorem go_ok_m (a : Int) (w : World) : (method 196 74 (.agg #[.int .i64 a]) "loop.example/latimer/impl.ok").run Try.prog w = .ok (72, .agg #[.int .i64 a]) w := by kernel_rfl
theorem go_plain_m (a : Int) (w : World) : (method 196 74 (.agg #[.int .i64 a]) "loop.example/latimer/impl.plain").run Try.prog w = .ok (73, .agg #[.int .i64 a]) w := by kernel_rfl
theorem pass_plain (op d : Int) (w : World) : Calls Try.prog 75 #[.agg #[.int .i64 op, .int .i64 d]] w fun e w' => e = .returned (.agg #[.int .i64 op, .int .i64 d, .int .i64 0, .int .i64 0]) ∧ Below w.heap.size w w' := by
  go_enter Try.func75, Try.ntmps75
  go_wp2
  exact bodyPost_ret (v := .agg #[.int .i64 op, .int .i64 d, .int .i64 0, .int .i64 0]) (by simp [results, Try.results75, go_sem]) rfl ⟨rfl, ((Below.refl _ _).alloc (Nat.le_refl _) _).alloc (by simp) _⟩
theorem pass_ok (op d : Int) (w : World) : Calls Try.prog 74 #[.agg #[.int .i64 op, .int .i64 d]] w fun e w' => e = .returned (.bool (inB d 0 3)) ∧ Below w.heap.size w w' := by
  obtain ⟨b, hb⟩ : ∃ b : Bool, (inB d 0 3) = b := ⟨_, rfl⟩
  rw [hb]
  have HB : Hid ((inB d 0 3) = b) := hb
  clear hb
  go_enter Try.func74, Try.ntmps74
  go_wp2
  all_goals
    go_ret
    refine ⟨ret_bool ?_, (Below.refl _ _).alloc (Nat.le_refl _) _⟩
    rw [← HB.out]
    clear HB
    first | rfl | (rw [Bool.eq_iff_iff]; simp [inB]; omega) | (rw [Bool.eq_iff_iff]; simp [inB]; done)
theorem pass_ok_m (op d : Int) (w : World) : (method 196 76 (.agg #[.int .i64 op, .int .i64 d]) "loop.example/latimer/impl.ok").run Try.prog w = .ok (74, .agg #[.int .i64 op, .int .i64 d]) w := by kernel_rfl
theorem pass_plain_m (op d : Int) (w : World) : (method 196 76 (.agg #[.int .i64 op, .int .i64 d]) "loop.example/latimer/impl.plain").run Try.prog w = .ok (75, .agg #[.int .i64 op, .int .i64 d]) w := by kernel_rfl
theorem no_plain (w : World) : Calls Try.prog 77 #[.agg #[]] w fun e w' => e = .returned (.agg #[.int .i64 0, .int .i64 0, .int .i64 0, .int .i64 0]) ∧ Below w.heap.size w w' := by
  go_enter Try.func77, Try.ntmps77
  go_wp2
  exact bodyPost_ret (v := .agg #[.int .i64 0, .int .i64 0, .int .i64 0, .int .i64 0]) (by simp [results, Try.results77, go_sem]) rfl ⟨rfl, ((Below.refl _ _).alloc (Nat.le_refl _) _).alloc (by simp) _⟩
theorem no_ok (w : World) : Calls Try.prog 76 #[.agg #[]] w fun e w' => e = .returned (.bool false) ∧ Below w.heap.size w w' := by
  go_enter Try.func76, Try.ntmps76
  go_wp2
  go_ret
  exact ⟨rfl, (Below.refl _ _).alloc (Nat.le_refl _) _⟩
theorem no_ok_m (w : World) : (method 196 78 (.agg #[]) "loop.example/latimer/impl.ok").run Try.prog w = .ok (76, .agg #[]) w := by kernel_rfl
theorem no_plain_m (w : World) : (method 196 78 (.agg #[]) "loop.example/latimer/impl.plain").run Try.prog w = .ok (77, .agg #[]) w := by kernel_rfl
theorem formOf_0 (d a k : Int) (w : World) : Calls Try.prog 39 #[.agg #[.int .i64 0, .int .i64 d, .int .i64 a, .int .i64 k]] w fun e w' => e = .returned (.iface 61 (.agg #[.int .i64 k])) ∧ Below w.heap.size w w' := by
  go_enter Try.func39, Try.ntmps39
  go_wp2
  go_ret
  exact ⟨rfl, (Below.refl _ _).alloc (Nat.le_refl _) _⟩
theorem formOf_1 (d a k : Int) (w : World) : Calls Try.prog 39 #[.agg #[.int .i64 1, .int .i64 d, .int .i64 a, .int .i64 k]] w fun e w' => e = .returned (.iface 63 (.agg #[.int .i64 d, .int .i64 k])) ∧ Below w.heap.size w w' := by
  go_enter Try.func39, Try.ntmps39
  go_wp2
  go_ret
  exact ⟨rfl, (Below.refl _ _).alloc (Nat.le_refl _) _⟩
theorem formOf_2 (d a k : Int) (w : World) : Calls Try.prog 39 #[.agg #[.int .i64 2, .int .i64 d, .int .i64 a, .int .i64 k]] w fun e w' => e = .returned (.iface 65 (.agg #[.int .i64 d, .int .i64 a])) ∧ Below w.heap.size w w' := by
  go_enter Try.func39, Try.ntmps39
  go_wp2
  go_ret
  exact ⟨rfl, (Below.refl _ _).alloc (Nat.le_refl _) _⟩
theorem formOf_3 (d a k : Int) (w : World) : Calls Try.prog 39 #[.agg #[.int .i64 3, .int .i64 d, .int .i64 a, .int .i64 k]] w fun e w' => e = .returned (.iface 67 (.agg #[.int .i64 3, .int .i64 d, .int .i64 a, .int .i64 k])) ∧ Below w.heap.size w w' := by
  go_enter Try.func39, Try.ntmps39
  go_wp2
  go_ret
  exact ⟨rfl, (Below.refl _ _).alloc (Nat.le_refl _) _⟩
theorem formOf_4 (d a k : Int) (w : World) : Calls Try.prog 39 #[.agg #[.int .i64 4, .int .i64 d, .int .i64 a, .int .i64 k]] w fun e w' => e = .returned (.iface 67 (.agg #[.int .i64 4, .int .i64 d, .int .i64 a, .int .i64 k])) ∧ Below w.heap.size w w' := by
  go_enter Try.func39, Try.ntmps39
  go_wp2
  go_ret
  exact ⟨rfl, (Below.refl _ _).alloc (Nat.le_refl _) _⟩
theorem formOf_5 (d a k : Int) (w : World) : Calls Try.prog 39 #[.agg #[.int .i64 5, .int .i64 d, .int .i64 a, .int .i64 k]] w fun e w' => e = .returned (.iface 67 (.agg #[.int .i64 5, .int .i64 d, .int .i64 a, .int .i64 k])) ∧ Below w.heap.size w w' := by
  go_enter Try.func39, Try.ntmps39
  go_wp2
  go_ret
  exact ⟨rfl, (Below.refl _ _).alloc (Nat.le_refl _) _⟩
theorem formOf_6 (d a k : Int) (w : World) : Calls Try.prog 39 #[.agg #[.int .i64 6, .int .i64 d, .int .i64 a, .int .i64 k]] w fun e w' => e = .returned (.iface 67 (.agg #[.int .i64 6, .int .i64 d, .int .i64 a, .int .i64 k])) ∧ Below w.heap.size w w' := by
  go_enter Try.func39, Try.ntmps39
  go_wp2
  go_ret
  exact ⟨rfl, (Below.refl _ _).alloc (Nat.le_refl _) _⟩
theorem formOf_7 (d a k : Int) (w : World) : Calls Try.prog 39 #[.agg #[.int .i64 7, .int .i64 d, .int .i64 a, .int .i64 k]] w fun e w' => e = .returned (.iface 67 (.agg #[.int .i64 7, .int .i64 d, .int .i64 a, .int .i64 k])) ∧ Below w.heap.size w w' := by
  go_enter Try.func39, Try.ntmps39
  go_wp2
  go_ret
  exact ⟨rfl, (Below.refl _ _).alloc (Nat.le_refl _) _⟩
theorem formOf_8 (d a k : Int) (w : World) : Calls Try.prog 39 #[.agg #[.int .i64 8, .int .i64 d, .int .i64 a, .int .i64 k]] w fun e w' => e = .returned (.iface 69 (.agg #[.int .i64 d, .int .i64 a, .int .i64 k])) ∧ Below w.heap.size w w' := by
  go_enter Try.func39, Try.ntmps39
  go_wp2
  go_ret
  exact ⟨rfl, (Below.refl _ _).alloc (Nat.le_refl _) _⟩
theorem formOf_9 (d a k : Int) (w : World) : Calls Try.prog 39 #[.agg #[.int .i64 9, .int .i64 d, .int .i64 a, .int .i64 k]] w fun e w' => e = .returned (.iface 71 (.agg #[.int .i64 9, .int .i64 d, .int .i64 a, .int .i64 k])) ∧ Below w.heap.size w w' := by
  go_enter Try.func39, Try.ntmps39
  go_wp2
  go_ret
  exact ⟨rfl, (Below.refl _ _).alloc (Nat.le_refl _) _⟩
theorem formOf_10 (d a k : Int) (w : World) : Calls Try.prog 39 #[.agg #[.int .i64 10, .int .i64 d, .int .i64 a, .int .i64 k]] w fun e w' => e = .returned (.iface 71 (.agg #[.int .i64 10, .int .i64 d, .int .i64 a, .int .i64 k])) ∧ Below w.heap.size w w' := by
  go_enter Try.func39, Try.ntmps39
  go_wp2
  go_ret
  exact ⟨rfl, (Below.refl _ _).alloc (Nat.le_refl _) _⟩
theorem formOf_11 (d a k : Int) (w : World) : Calls Try.prog 39 #[.agg #[.int .i64 11, .int .i64 d, .int .i64 a, .int .i64 k]] w fun e w' => e = .returned (.iface 72 (.agg #[.int .i64 11, .int .i64 d, .int .i64 a, .int .i64 k])) ∧ Below w.heap.size w w' := by
  go_enter Try.func39, Try.ntmps39
  go_wp2
  go_ret
  exact ⟨rfl, (Below.refl _ _).alloc (Nat.le_refl _) _⟩
theorem formOf_12 (d a k : Int) (w : World) : Calls Try.prog 39 #[.agg #[.int .i64 12, .int .i64 d, .int .i64 a, .int .i64 k]] w fun e w' => e = .returned (.iface 72 (.agg #[.int .i64 12, .int .i64 d, .int .i64 a, .int .i64 k])) ∧ Below w.heap.size w w' := by
  go_enter Try.func39, Try.ntmps39
  go_wp2
  go_ret
  exact ⟨rfl, (Below.refl _ _).alloc (Nat.le_refl _) _⟩
theorem formOf_13 (d a k : Int) (w : World) : Calls Try.prog 39 #[.agg #[.int .i64 13, .int .i64 d, .int .i64 a, .int .i64 k]] w fun e w' => e = .returned (.iface 74 (.agg #[.int .i64 a])) ∧ Below w.heap.size w w' := by
  go_enter Try.func39, Try.ntmps39
  go_wp2
  go_ret
  exact ⟨rfl, (Below.refl _ _).alloc (Nat.le_refl _) _⟩
theorem formOf_14 (d a k : Int) (w : World) : Calls Try.prog 39 #[.agg #[.int .i64 14, .int .i64 d, .int .i64 a, .int .i64 k]] w fun e w' => e = .returned (.iface 76 (.agg #[.int .i64 14, .int .i64 d])) ∧ Below w.heap.size w w' := by
  go_enter Try.func39, Try.ntmps39
  go_wp2
  go_ret
  exact ⟨rfl, (Below.refl _ _).alloc (Nat.le_refl _) _⟩
theorem formOf_15 (d a k : Int) (w : World) : Calls Try.prog 39 #[.agg #[.int .i64 15, .int .i64 d, .int .i64 a, .int .i64 k]] w fun e w' => e = .returned (.iface 76 (.agg #[.int .i64 15, .int .i64 d])) ∧ Below w.heap.size w w' := by
  go_enter Try.func39, Try.ntmps39
  go_wp2
  go_ret
  exact ⟨rfl, (Below.refl _ _).alloc (Nat.le_refl _) _⟩
theorem formOf_no (op d a k : Int) (w : World) (h : ¬ (0 ≤ op ∧ op ≤ 15)) : Calls Try.prog 39 #[.agg #[.int .i64 op, .int .i64 d, .int .i64 a, .int .i64 k]] w fun e w' => e = .returned (.iface 78 (.agg #[])) ∧ Below w.heap.size w w' := by
  have b0 : (op == 0) = false := beq_eq_false_iff_ne.2 (by omega)
  have b1 : (op == 1) = false := beq_eq_false_iff_ne.2 (by omega)
  have b2 : (op == 2) = false := beq_eq_false_iff_ne.2 (by omega)
  have b3 : (op == 3) = false := beq_eq_false_iff_ne.2 (by omega)
  have b4 : (op == 4) = false := beq_eq_false_iff_ne.2 (by omega)
  have b5 : (op == 5) = false := beq_eq_false_iff_ne.2 (by omega)
  have b6 : (op == 6) = false := beq_eq_false_iff_ne.2 (by omega)
  have b7 : (op == 7) = false := beq_eq_false_iff_ne.2 (by omega)
  have b8 : (op == 8) = false := beq_eq_false_iff_ne.2 (by omega)
  have b9 : (op == 9) = false := beq_eq_false_iff_ne.2 (by omega)
  have b10 : (op == 10) = false := beq_eq_false_iff_ne.2 (by omega)
  have b11 : (op == 11) = false := beq_eq_false_iff_ne.2 (by omega)
  have b12 : (op == 12) = false := beq_eq_false_iff_ne.2 (by omega)
  have b13 : (op == 13) = false := beq_eq_false_iff_ne.2 (by omega)
  have b14 : (op == 14) = false := beq_eq_false_iff_ne.2 (by omega)
  have b15 : (op == 15) = false := beq_eq_false_iff_ne.2 (by omega)
  clear h
  go_enter Try.func39, Try.ntmps39
  go_wp2
  go_ret
  exact ⟨rfl, (Below.refl _ _).alloc (Nat.le_refl _) _⟩
theorem ok_0 (d a k : Int) : okB 0 d a k = ((inB k 0 3) && decide (d = 0 ∧ a = 0)) := by
  rw [Bool.eq_iff_iff]
  simp [okB, inB, formB]
  try omega
theorem ok_1 (d a k : Int) : okB 1 d a k = ((inB d 0 3 && inB k 0 255) && decide (a = 0)) := by
  rw [Bool.eq_iff_iff]
  simp [okB, inB, formB]
  try omega
theorem ok_2 (d a k : Int) : okB 2 d a k = ((inB d 0 3 && inB a 0 3) && decide (k = 0)) := by
  rw [Bool.eq_iff_iff]
  simp [okB, inB, formB]
  try omega
theorem ok_3 (d a k : Int) : okB 3 d a k = ((inB d 0 3 && inB a 0 3 && inB k 0 3) && true) := by
  rw [Bool.eq_iff_iff]
  simp [okB, inB, formB]
  try omega
theorem ok_4 (d a k : Int) : okB 4 d a k = ((inB d 0 3 && inB a 0 3 && inB k 0 3) && true) := by
  rw [Bool.eq_iff_iff]
  simp [okB, inB, formB]
  try omega
theorem ok_5 (d a k : Int) : okB 5 d a k = ((inB d 0 3 && inB a 0 3 && inB k 0 3) && true) := by
  rw [Bool.eq_iff_iff]
  simp [okB, inB, formB]
  try omega
theorem ok_6 (d a k : Int) : okB 6 d a k = ((inB d 0 3 && inB a 0 3 && inB k 0 3) && true) := by
  rw [Bool.eq_iff_iff]
  simp [okB, inB, formB]
  try omega
theorem ok_7 (d a k : Int) : okB 7 d a k = ((inB d 0 3 && inB a 0 3 && inB k 0 3) && true) := by
  rw [Bool.eq_iff_iff]
  simp [okB, inB, formB]
  try omega
theorem ok_8 (d a k : Int) : okB 8 d a k = ((inB d 0 3 && inB a 0 3 && inB k 0 15) && true) := by
  rw [Bool.eq_iff_iff]
  simp [okB, inB, formB]
  try omega
theorem ok_9 (d a k : Int) : okB 9 d a k = ((inB d 0 3 && inB a 0 3 && inB k 0 255) && true) := by
  rw [Bool.eq_iff_iff]
  simp [okB, inB, formB]
  try omega
theorem ok_10 (d a k : Int) : okB 10 d a k = ((inB d 0 3 && inB a 0 3 && inB k 0 255) && true) := by
  rw [Bool.eq_iff_iff]
  simp [okB, inB, formB]
  try omega
theorem ok_11 (d a k : Int) : okB 11 d a k = ((inB d 0 3 && inB a 0 3 && inB k 0 255) && true) := by
  rw [Bool.eq_iff_iff]
  simp [okB, inB, formB]
  try omega
theorem ok_12 (d a k : Int) : okB 12 d a k = ((inB d 0 3 && inB a 0 3 && inB k 0 255) && true) := by
  rw [Bool.eq_iff_iff]
  simp [okB, inB, formB]
  try omega
theorem ok_13 (d a k : Int) : okB 13 d a k = ((inB a 0 3) && decide (d = 0 ∧ k = 0)) := by
  rw [Bool.eq_iff_iff]
  simp [okB, inB, formB]
  try omega
theorem ok_14 (d a k : Int) : okB 14 d a k = ((inB d 0 3) && decide (a = 0 ∧ k = 0)) := by
  rw [Bool.eq_iff_iff]
  simp [okB, inB, formB]
  try omega
theorem ok_15 (d a k : Int) : okB 15 d a k = ((inB d 0 3) && decide (a = 0 ∧ k = 0)) := by
  rw [Bool.eq_iff_iff]
  simp [okB, inB, formB]
  try omega
end Go.Proofs.Ytmmlhmhlfmafgaa.InsI
