/-
  The program's forms of instructions: their methods and which form an instruction has, each at every argument.
-/
import Derived.Test.YtnhpmbhphbphaaaGreatJnB
import Derived.Deep.RegionWith
namespace Go.Proofs.YtnhpmbhphbphaaaGreat.InsI
open Go.ChangeShapes Go.WideShapes Go.ChangeAt Go.RowKit Ins
theorem hide {p : Prop} (h : p) : Hid p := h
theorem stop_plain (k : Int) (w : World) : Calls Tryz.prog 125 #[.agg #[.int .i64 k]] w fun e w' => e = .returned (.agg #[.int .i64 0, .int .i64 0, .int .i64 0, .int .i64 k]) ∧ Below w.heap.size w w' := by
  go_enter Tryz.func125, Tryz.ntmps125
  go_wp2
  exact bodyPost_ret (v := .agg #[.int .i64 0, .int .i64 0, .int .i64 0, .int .i64 k]) (by simp [results, Tryz.results125, go_sem]) rfl ⟨rfl, ((Below.refl _ _).alloc (Nat.le_refl _) _).alloc (by simp) _⟩
theorem stop_ok (k : Int) (w : World) : Calls Tryz.prog 124 #[.agg #[.int .i64 k]] w fun e w' => e = .returned (.bool (inB k 0 3)) ∧ Below w.heap.size w w' := by
  obtain ⟨b, hb⟩ : ∃ b : Bool, (inB k 0 3) = b := ⟨_, rfl⟩
  rw [hb]
  have HB : Hid ((inB k 0 3) = b) := hb
  clear hb
  go_enter Tryz.func124, Tryz.ntmps124
  go_wp2
  all_goals
    go_ret
    refine ⟨ret_bool ?_, (Below.refl _ _).alloc (Nat.le_refl _) _⟩
    rw [← HB.out]
    clear HB
    first | rfl | (rw [Bool.eq_iff_iff]; simp [inB]; omega) | (rw [Bool.eq_iff_iff]; simp [inB]; done)
theorem stop_ok_m (k : Int) (w : World) : (method 230 89 (.agg #[.int .i64 k]) "loop.example/latimer/impl.ok").run Tryz.prog w = .ok (124, .agg #[.int .i64 k]) w := by kernel_rfl
theorem stop_plain_m (k : Int) (w : World) : (method 230 89 (.agg #[.int .i64 k]) "loop.example/latimer/impl.plain").run Tryz.prog w = .ok (125, .agg #[.int .i64 k]) w := by kernel_rfl
theorem set_plain (d k : Int) (w : World) : Calls Tryz.prog 127 #[.agg #[.int .i64 d, .int .i64 k]] w fun e w' => e = .returned (.agg #[.int .i64 1, .int .i64 d, .int .i64 0, .int .i64 k]) ∧ Below w.heap.size w w' := by
  go_enter Tryz.func127, Tryz.ntmps127
  go_wp2
  exact bodyPost_ret (v := .agg #[.int .i64 1, .int .i64 d, .int .i64 0, .int .i64 k]) (by simp [results, Tryz.results127, go_sem]) rfl ⟨rfl, ((Below.refl _ _).alloc (Nat.le_refl _) _).alloc (by simp) _⟩
theorem set_ok (d k : Int) (w : World) : Calls Tryz.prog 126 #[.agg #[.int .i64 d, .int .i64 k]] w fun e w' => e = .returned (.bool (inB d 0 3 && inB k 0 255)) ∧ Below w.heap.size w w' := by
  obtain ⟨b, hb⟩ : ∃ b : Bool, (inB d 0 3 && inB k 0 255) = b := ⟨_, rfl⟩
  rw [hb]
  have HB : Hid ((inB d 0 3 && inB k 0 255) = b) := hb
  clear hb
  go_enter Tryz.func126, Tryz.ntmps126
  go_wp2
  all_goals
    go_ret
    refine ⟨ret_bool ?_, (Below.refl _ _).alloc (Nat.le_refl _) _⟩
    rw [← HB.out]
    clear HB
    first | rfl | (rw [Bool.eq_iff_iff]; simp [inB]; omega) | (rw [Bool.eq_iff_iff]; simp [inB]; done)
theorem set_ok_m (d k : Int) (w : World) : (method 230 91 (.agg #[.int .i64 d, .int .i64 k]) "loop.example/latimer/impl.ok").run Tryz.prog w = .ok (126, .agg #[.int .i64 d, .int .i64 k]) w := by kernel_rfl
theorem set_plain_m (d k : Int) (w : World) : (method 230 91 (.agg #[.int .i64 d, .int .i64 k]) "loop.example/latimer/impl.plain").run Tryz.prog w = .ok (127, .agg #[.int .i64 d, .int .i64 k]) w := by kernel_rfl
theorem move_plain (d a : Int) (w : World) : Calls Tryz.prog 131 #[.agg #[.int .i64 d, .int .i64 a]] w fun e w' => e = .returned (.agg #[.int .i64 2, .int .i64 d, .int .i64 a, .int .i64 0]) ∧ Below w.heap.size w w' := by
  go_enter Tryz.func131, Tryz.ntmps131
  go_wp2
  exact bodyPost_ret (v := .agg #[.int .i64 2, .int .i64 d, .int .i64 a, .int .i64 0]) (by simp [results, Tryz.results131, go_sem]) rfl ⟨rfl, ((Below.refl _ _).alloc (Nat.le_refl _) _).alloc (by simp) _⟩
theorem move_ok (d a : Int) (w : World) : Calls Tryz.prog 130 #[.agg #[.int .i64 d, .int .i64 a]] w fun e w' => e = .returned (.bool (inB d 0 3 && inB a 0 3)) ∧ Below w.heap.size w w' := by
  obtain ⟨b, hb⟩ : ∃ b : Bool, (inB d 0 3 && inB a 0 3) = b := ⟨_, rfl⟩
  rw [hb]
  have HB : Hid ((inB d 0 3 && inB a 0 3) = b) := hb
  clear hb
  go_enter Tryz.func130, Tryz.ntmps130
  go_wp2
  all_goals
    go_ret
    refine ⟨ret_bool ?_, (Below.refl _ _).alloc (Nat.le_refl _) _⟩
    rw [← HB.out]
    clear HB
    first | rfl | (rw [Bool.eq_iff_iff]; simp [inB]; omega) | (rw [Bool.eq_iff_iff]; simp [inB]; done)
theorem move_ok_m (d a : Int) (w : World) : (method 230 93 (.agg #[.int .i64 d, .int .i64 a]) "loop.example/latimer/impl.ok").run Tryz.prog w = .ok (130, .agg #[.int .i64 d, .int .i64 a]) w := by kernel_rfl
theorem move_plain_m (d a : Int) (w : World) : (method 230 93 (.agg #[.int .i64 d, .int .i64 a]) "loop.example/latimer/impl.plain").run Tryz.prog w = .ok (131, .agg #[.int .i64 d, .int .i64 a]) w := by kernel_rfl
theorem reckon_plain (op d a k : Int) (w : World) : Calls Tryz.prog 133 #[.agg #[.int .i64 op, .int .i64 d, .int .i64 a, .int .i64 k]] w fun e w' => e = .returned (.agg #[.int .i64 op, .int .i64 d, .int .i64 a, .int .i64 k]) ∧ Below w.heap.size w w' := by
  go_enter Tryz.func133, Tryz.ntmps133
  go_wp2
  exact bodyPost_ret (v := .agg #[.int .i64 op, .int .i64 d, .int .i64 a, .int .i64 k]) (by simp [results, Tryz.results133, go_sem]) rfl ⟨rfl, ((Below.refl _ _).alloc (Nat.le_refl _) _).alloc (by simp) _⟩
theorem reckon_ok (op d a k : Int) (w : World) : Calls Tryz.prog 132 #[.agg #[.int .i64 op, .int .i64 d, .int .i64 a, .int .i64 k]] w fun e w' => e = .returned (.bool (inB d 0 3 && inB a 0 3 && inB k 0 3)) ∧ Below w.heap.size w w' := by
  obtain ⟨b, hb⟩ : ∃ b : Bool, (inB d 0 3 && inB a 0 3 && inB k 0 3) = b := ⟨_, rfl⟩
  rw [hb]
  have HB : Hid ((inB d 0 3 && inB a 0 3 && inB k 0 3) = b) := hb
  clear hb
  go_enter Tryz.func132, Tryz.ntmps132
  go_wp2
  all_goals
    go_ret
    refine ⟨ret_bool ?_, (Below.refl _ _).alloc (Nat.le_refl _) _⟩
    rw [← HB.out]
    clear HB
    first | rfl | (rw [Bool.eq_iff_iff]; simp [inB]; omega) | (rw [Bool.eq_iff_iff]; simp [inB]; done)
theorem reckon_ok_m (op d a k : Int) (w : World) : (method 230 95 (.agg #[.int .i64 op, .int .i64 d, .int .i64 a, .int .i64 k]) "loop.example/latimer/impl.ok").run Tryz.prog w = .ok (132, .agg #[.int .i64 op, .int .i64 d, .int .i64 a, .int .i64 k]) w := by kernel_rfl
theorem reckon_plain_m (op d a k : Int) (w : World) : (method 230 95 (.agg #[.int .i64 op, .int .i64 d, .int .i64 a, .int .i64 k]) "loop.example/latimer/impl.plain").run Tryz.prog w = .ok (133, .agg #[.int .i64 op, .int .i64 d, .int .i64 a, .int .i64 k]) w := by kernel_rfl
theorem shift_plain (d a k : Int) (w : World) : Calls Tryz.prog 135 #[.agg #[.int .i64 d, .int .i64 a, .int .i64 k]] w fun e w' => e = .returned (.agg #[.int .i64 8, .int .i64 d, .int .i64 a, .int .i64 k]) ∧ Below w.heap.size w w' := by
  go_enter Tryz.func135, Tryz.ntmps135
  go_wp2
  exact bodyPost_ret (v := .agg #[.int .i64 8, .int .i64 d, .int .i64 a, .int .i64 k]) (by simp [results, Tryz.results135, go_sem]) rfl ⟨rfl, ((Below.refl _ _).alloc (Nat.le_refl _) _).alloc (by simp) _⟩
theorem shift_ok (d a k : Int) (w : World) : Calls Tryz.prog 134 #[.agg #[.int .i64 d, .int .i64 a, .int .i64 k]] w fun e w' => e = .returned (.bool (inB d 0 3 && inB a 0 3 && inB k 0 15)) ∧ Below w.heap.size w w' := by
  obtain ⟨b, hb⟩ : ∃ b : Bool, (inB d 0 3 && inB a 0 3 && inB k 0 15) = b := ⟨_, rfl⟩
  rw [hb]
  have HB : Hid ((inB d 0 3 && inB a 0 3 && inB k 0 15) = b) := hb
  clear hb
  go_enter Tryz.func134, Tryz.ntmps134
  go_wp2
  all_goals
    go_ret
    refine ⟨ret_bool ?_, (Below.refl _ _).alloc (Nat.le_refl _) _⟩
    rw [← HB.out]
    clear HB
    first | rfl | (rw [Bool.eq_iff_iff]; simp [inB]; omega) | (rw [Bool.eq_iff_iff]; simp [inB]; done)
theorem shift_ok_m (d a k : Int) (w : World) : (method 230 97 (.agg #[.int .i64 d, .int .i64 a, .int .i64 k]) "loop.example/latimer/impl.ok").run Tryz.prog w = .ok (134, .agg #[.int .i64 d, .int .i64 a, .int .i64 k]) w := by kernel_rfl
theorem shift_plain_m (d a k : Int) (w : World) : (method 230 97 (.agg #[.int .i64 d, .int .i64 a, .int .i64 k]) "loop.example/latimer/impl.plain").run Tryz.prog w = .ok (135, .agg #[.int .i64 d, .int .i64 a, .int .i64 k]) w := by kernel_rfl
theorem reach_plain (op d a k : Int) (w : World) : Calls Tryz.prog 137 #[.agg #[.int .i64 op, .int .i64 d, .int .i64 a, .int .i64 k]] w fun e w' => e = .returned (.agg #[.int .i64 op, .int .i64 d, .int .i64 a, .int .i64 k]) ∧ Below w.heap.size w w' := by
  go_enter Tryz.func137, Tryz.ntmps137
  go_wp2
  exact bodyPost_ret (v := .agg #[.int .i64 op, .int .i64 d, .int .i64 a, .int .i64 k]) (by simp [results, Tryz.results137, go_sem]) rfl ⟨rfl, ((Below.refl _ _).alloc (Nat.le_refl _) _).alloc (by simp) _⟩
theorem reach_ok (op d a k : Int) (w : World) : Calls Tryz.prog 136 #[.agg #[.int .i64 op, .int .i64 d, .int .i64 a, .int .i64 k]] w fun e w' => e = .returned (.bool (inB d 0 3 && inB a 0 3 && inB k 0 255)) ∧ Below w.heap.size w w' := by
  obtain ⟨b, hb⟩ : ∃ b : Bool, (inB d 0 3 && inB a 0 3 && inB k 0 255) = b := ⟨_, rfl⟩
  rw [hb]
  have HB : Hid ((inB d 0 3 && inB a 0 3 && inB k 0 255) = b) := hb
  clear hb
  go_enter Tryz.func136, Tryz.ntmps136
  go_wp2
  all_goals
    go_ret
    refine ⟨ret_bool ?_, (Below.refl _ _).alloc (Nat.le_refl _) _⟩
    rw [← HB.out]
    clear HB
    first | rfl | (rw [Bool.eq_iff_iff]; simp [inB]; omega) | (rw [Bool.eq_iff_iff]; simp [inB]; done)
theorem reach_ok_m (op d a k : Int) (w : World) : (method 230 99 (.agg #[.int .i64 op, .int .i64 d, .int .i64 a, .int .i64 k]) "loop.example/latimer/impl.ok").run Tryz.prog w = .ok (136, .agg #[.int .i64 op, .int .i64 d, .int .i64 a, .int .i64 k]) w := by kernel_rfl
theorem reach_plain_m (op d a k : Int) (w : World) : (method 230 99 (.agg #[.int .i64 op, .int .i64 d, .int .i64 a, .int .i64 k]) "loop.example/latimer/impl.plain").run Tryz.prog w = .ok (137, .agg #[.int .i64 op, .int .i64 d, .int .i64 a, .int .i64 k]) w := by kernel_rfl
theorem ask_plain (op d a k : Int) (w : World) : Calls Tryz.prog 139 #[.agg #[.int .i64 op, .int .i64 d, .int .i64 a, .int .i64 k]] w fun e w' => e = .returned (.agg #[.int .i64 op, .int .i64 d, .int .i64 a, .int .i64 k]) ∧ Below w.heap.size w w' := by
  go_enter Tryz.func139, Tryz.ntmps139
  go_wp2
  exact bodyPost_ret (v := .agg #[.int .i64 op, .int .i64 d, .int .i64 a, .int .i64 k]) (by simp [results, Tryz.results139, go_sem]) rfl ⟨rfl, ((Below.refl _ _).alloc (Nat.le_refl _) _).alloc (by simp) _⟩
theorem ask_ok (op d a k : Int) (w : World) : Calls Tryz.prog 138 #[.agg #[.int .i64 op, .int .i64 d, .int .i64 a, .int .i64 k]] w fun e w' => e = .returned (.bool (inB d 0 3 && inB a 0 3 && inB k 0 255)) ∧ Below w.heap.size w w' := by
  obtain ⟨b, hb⟩ : ∃ b : Bool, (inB d 0 3 && inB a 0 3 && inB k 0 255) = b := ⟨_, rfl⟩
  rw [hb]
  have HB : Hid ((inB d 0 3 && inB a 0 3 && inB k 0 255) = b) := hb
  clear hb
  go_enter Tryz.func138, Tryz.ntmps138
  go_wp2
  all_goals
    go_ret
    refine ⟨ret_bool ?_, (Below.refl _ _).alloc (Nat.le_refl _) _⟩
    rw [← HB.out]
    clear HB
    first | rfl | (rw [Bool.eq_iff_iff]; simp [inB]; omega) | (rw [Bool.eq_iff_iff]; simp [inB]; done)
theorem ask_ok_m (op d a k : Int) (w : World) : (method 230 100 (.agg #[.int .i64 op, .int .i64 d, .int .i64 a, .int .i64 k]) "loop.example/latimer/impl.ok").run Tryz.prog w = .ok (138, .agg #[.int .i64 op, .int .i64 d, .int .i64 a, .int .i64 k]) w := by kernel_rfl
theorem ask_plain_m (op d a k : Int) (w : World) : (method 230 100 (.agg #[.int .i64 op, .int .i64 d, .int .i64 a, .int .i64 k]) "loop.example/latimer/impl.plain").run Tryz.prog w = .ok (139, .agg #[.int .i64 op, .int .i64 d, .int .i64 a, .int .i64 k]) w := by kernel_rfl
theorem go_plain (a : Int) (w : World) : Calls Tryz.prog 141 #[.agg #[.int .i64 a]] w fun e w' => e = .returned (.agg #[.int .i64 13, .int .i64 0, .int .i64 a, .int .i64 0]) ∧ Below w.heap.size w w' := by
  go_enter Tryz.func141, Tryz.ntmps141
  go_wp2
  exact bodyPost_ret (v := .agg #[.int .i64 13, .int .i64 0, .int .i64 a, .int .i64 0]) (by simp [results, Tryz.results141, go_sem]) rfl ⟨rfl, ((Below.refl _ _).alloc (Nat.le_refl _) _).alloc (by simp) _⟩
theorem go_ok (a : Int) (w : World) : Calls Tryz.prog 140 #[.agg #[.int .i64 a]] w fun e w' => e = .returned (.bool (inB a 0 3)) ∧ Below w.heap.size w w' := by
  obtain ⟨b, hb⟩ : ∃ b : Bool, (inB a 0 3) = b := ⟨_, rfl⟩
  rw [hb]
  have HB : Hid ((inB a 0 3) = b) := hb
  clear hb
  go_enter Tryz.func140, Tryz.ntmps140
  go_wp2
  all_goals
    go_ret
    refine ⟨ret_bool ?_, (Below.refl _ _).alloc (Nat.le_refl _) _⟩
    rw [← HB.out]
    clear HB
    first | rfl | (rw [Bool.eq_iff_iff]; simp [inB]; omega) | (rw [Bool.eq_iff_iff]; simp [inB]; done)
theorem go_ok_m (a : Int) (w : World) : (method 230 102 (.agg #[.int .i64 a]) "loop.example/latimer/impl.ok").run Tryz.prog w = .ok (140, .agg #[.int .i64 a]) w := by kernel_rfl
theorem go_plain_m (a : Int) (w : World) : (method 230 102 (.agg #[.int .i64 a]) "loop.example/latimer/impl.plain").run Tryz.prog w = .ok (141, .agg #[.int .i64 a]) w := by kernel_rfl
theorem pass_plain (op d : Int) (w : World) : Calls Tryz.prog 143 #[.agg #[.int .i64 op, .int .i64 d]] w fun e w' => e = .returned (.agg #[.int .i64 op, .int .i64 d, .int .i64 0, .int .i64 0]) ∧ Below w.heap.size w w' := by
  go_enter Tryz.func143, Tryz.ntmps143
  go_wp2
  exact bodyPost_ret (v := .agg #[.int .i64 op, .int .i64 d, .int .i64 0, .int .i64 0]) (by simp [results, Tryz.results143, go_sem]) rfl ⟨rfl, ((Below.refl _ _).alloc (Nat.le_refl _) _).alloc (by simp) _⟩
theorem pass_ok (op d : Int) (w : World) : Calls Tryz.prog 142 #[.agg #[.int .i64 op, .int .i64 d]] w fun e w' => e = .returned (.bool (inB d 0 3)) ∧ Below w.heap.size w w' := by
  obtain ⟨b, hb⟩ : ∃ b : Bool, (inB d 0 3) = b := ⟨_, rfl⟩
  rw [hb]
  have HB : Hid ((inB d 0 3) = b) := hb
  clear hb
  go_enter Tryz.func142, Tryz.ntmps142
  go_wp2
  all_goals
    go_ret
    refine ⟨ret_bool ?_, (Below.refl _ _).alloc (Nat.le_refl _) _⟩
    rw [← HB.out]
    clear HB
    first | rfl | (rw [Bool.eq_iff_iff]; simp [inB]; omega) | (rw [Bool.eq_iff_iff]; simp [inB]; done)
theorem pass_ok_m (op d : Int) (w : World) : (method 230 104 (.agg #[.int .i64 op, .int .i64 d]) "loop.example/latimer/impl.ok").run Tryz.prog w = .ok (142, .agg #[.int .i64 op, .int .i64 d]) w := by kernel_rfl
theorem pass_plain_m (op d : Int) (w : World) : (method 230 104 (.agg #[.int .i64 op, .int .i64 d]) "loop.example/latimer/impl.plain").run Tryz.prog w = .ok (143, .agg #[.int .i64 op, .int .i64 d]) w := by kernel_rfl
theorem no_plain (w : World) : Calls Tryz.prog 145 #[.agg #[]] w fun e w' => e = .returned (.agg #[.int .i64 0, .int .i64 0, .int .i64 0, .int .i64 0]) ∧ Below w.heap.size w w' := by
  go_enter Tryz.func145, Tryz.ntmps145
  go_wp2
  exact bodyPost_ret (v := .agg #[.int .i64 0, .int .i64 0, .int .i64 0, .int .i64 0]) (by simp [results, Tryz.results145, go_sem]) rfl ⟨rfl, ((Below.refl _ _).alloc (Nat.le_refl _) _).alloc (by simp) _⟩
theorem no_ok (w : World) : Calls Tryz.prog 144 #[.agg #[]] w fun e w' => e = .returned (.bool false) ∧ Below w.heap.size w w' := by
  go_enter Tryz.func144, Tryz.ntmps144
  go_wp2
  go_ret
  exact ⟨rfl, (Below.refl _ _).alloc (Nat.le_refl _) _⟩
theorem no_ok_m (w : World) : (method 230 106 (.agg #[]) "loop.example/latimer/impl.ok").run Tryz.prog w = .ok (144, .agg #[]) w := by kernel_rfl
theorem no_plain_m (w : World) : (method 230 106 (.agg #[]) "loop.example/latimer/impl.plain").run Tryz.prog w = .ok (145, .agg #[]) w := by kernel_rfl
theorem formOf_0 (d a k : Int) (w : World) : Calls Tryz.prog 81 #[.agg #[.int .i64 0, .int .i64 d, .int .i64 a, .int .i64 k]] w fun e w' => e = .returned (.iface 89 (.agg #[.int .i64 k])) ∧ Below w.heap.size w w' := by
  go_enter Tryz.func81, Tryz.ntmps81
  go_wp2
  go_ret
  exact ⟨rfl, (Below.refl _ _).alloc (Nat.le_refl _) _⟩
theorem formOf_1 (d a k : Int) (w : World) : Calls Tryz.prog 81 #[.agg #[.int .i64 1, .int .i64 d, .int .i64 a, .int .i64 k]] w fun e w' => e = .returned (.iface 91 (.agg #[.int .i64 d, .int .i64 k])) ∧ Below w.heap.size w w' := by
  go_enter Tryz.func81, Tryz.ntmps81
  go_wp2
  go_ret
  exact ⟨rfl, (Below.refl _ _).alloc (Nat.le_refl _) _⟩
theorem formOf_2 (d a k : Int) (w : World) : Calls Tryz.prog 81 #[.agg #[.int .i64 2, .int .i64 d, .int .i64 a, .int .i64 k]] w fun e w' => e = .returned (.iface 93 (.agg #[.int .i64 d, .int .i64 a])) ∧ Below w.heap.size w w' := by
  go_enter Tryz.func81, Tryz.ntmps81
  go_wp2
  go_ret
  exact ⟨rfl, (Below.refl _ _).alloc (Nat.le_refl _) _⟩
theorem formOf_3 (d a k : Int) (w : World) : Calls Tryz.prog 81 #[.agg #[.int .i64 3, .int .i64 d, .int .i64 a, .int .i64 k]] w fun e w' => e = .returned (.iface 95 (.agg #[.int .i64 3, .int .i64 d, .int .i64 a, .int .i64 k])) ∧ Below w.heap.size w w' := by
  go_enter Tryz.func81, Tryz.ntmps81
  go_wp2
  go_ret
  exact ⟨rfl, (Below.refl _ _).alloc (Nat.le_refl _) _⟩
theorem formOf_4 (d a k : Int) (w : World) : Calls Tryz.prog 81 #[.agg #[.int .i64 4, .int .i64 d, .int .i64 a, .int .i64 k]] w fun e w' => e = .returned (.iface 95 (.agg #[.int .i64 4, .int .i64 d, .int .i64 a, .int .i64 k])) ∧ Below w.heap.size w w' := by
  go_enter Tryz.func81, Tryz.ntmps81
  go_wp2
  go_ret
  exact ⟨rfl, (Below.refl _ _).alloc (Nat.le_refl _) _⟩
theorem formOf_5 (d a k : Int) (w : World) : Calls Tryz.prog 81 #[.agg #[.int .i64 5, .int .i64 d, .int .i64 a, .int .i64 k]] w fun e w' => e = .returned (.iface 95 (.agg #[.int .i64 5, .int .i64 d, .int .i64 a, .int .i64 k])) ∧ Below w.heap.size w w' := by
  go_enter Tryz.func81, Tryz.ntmps81
  go_wp2
  go_ret
  exact ⟨rfl, (Below.refl _ _).alloc (Nat.le_refl _) _⟩
theorem formOf_6 (d a k : Int) (w : World) : Calls Tryz.prog 81 #[.agg #[.int .i64 6, .int .i64 d, .int .i64 a, .int .i64 k]] w fun e w' => e = .returned (.iface 95 (.agg #[.int .i64 6, .int .i64 d, .int .i64 a, .int .i64 k])) ∧ Below w.heap.size w w' := by
  go_enter Tryz.func81, Tryz.ntmps81
  go_wp2
  go_ret
  exact ⟨rfl, (Below.refl _ _).alloc (Nat.le_refl _) _⟩
theorem formOf_7 (d a k : Int) (w : World) : Calls Tryz.prog 81 #[.agg #[.int .i64 7, .int .i64 d, .int .i64 a, .int .i64 k]] w fun e w' => e = .returned (.iface 95 (.agg #[.int .i64 7, .int .i64 d, .int .i64 a, .int .i64 k])) ∧ Below w.heap.size w w' := by
  go_enter Tryz.func81, Tryz.ntmps81
  go_wp2
  go_ret
  exact ⟨rfl, (Below.refl _ _).alloc (Nat.le_refl _) _⟩
theorem formOf_8 (d a k : Int) (w : World) : Calls Tryz.prog 81 #[.agg #[.int .i64 8, .int .i64 d, .int .i64 a, .int .i64 k]] w fun e w' => e = .returned (.iface 97 (.agg #[.int .i64 d, .int .i64 a, .int .i64 k])) ∧ Below w.heap.size w w' := by
  go_enter Tryz.func81, Tryz.ntmps81
  go_wp2
  go_ret
  exact ⟨rfl, (Below.refl _ _).alloc (Nat.le_refl _) _⟩
theorem formOf_9 (d a k : Int) (w : World) : Calls Tryz.prog 81 #[.agg #[.int .i64 9, .int .i64 d, .int .i64 a, .int .i64 k]] w fun e w' => e = .returned (.iface 99 (.agg #[.int .i64 9, .int .i64 d, .int .i64 a, .int .i64 k])) ∧ Below w.heap.size w w' := by
  go_enter Tryz.func81, Tryz.ntmps81
  go_wp2
  go_ret
  exact ⟨rfl, (Below.refl _ _).alloc (Nat.le_refl _) _⟩
theorem formOf_10 (d a k : Int) (w : World) : Calls Tryz.prog 81 #[.agg #[.int .i64 10, .int .i64 d, .int .i64 a, .int .i64 k]] w fun e w' => e = .returned (.iface 99 (.agg #[.int .i64 10, .int .i64 d, .int .i64 a, .int .i64 k])) ∧ Below w.heap.size w w' := by
  go_enter Tryz.func81, Tryz.ntmps81
  go_wp2
  go_ret
  exact ⟨rfl, (Below.refl _ _).alloc (Nat.le_refl _) _⟩
theorem formOf_11 (d a k : Int) (w : World) : Calls Tryz.prog 81 #[.agg #[.int .i64 11, .int .i64 d, .int .i64 a, .int .i64 k]] w fun e w' => e = .returned (.iface 100 (.agg #[.int .i64 11, .int .i64 d, .int .i64 a, .int .i64 k])) ∧ Below w.heap.size w w' := by
  go_enter Tryz.func81, Tryz.ntmps81
  go_wp2
  go_ret
  exact ⟨rfl, (Below.refl _ _).alloc (Nat.le_refl _) _⟩
theorem formOf_12 (d a k : Int) (w : World) : Calls Tryz.prog 81 #[.agg #[.int .i64 12, .int .i64 d, .int .i64 a, .int .i64 k]] w fun e w' => e = .returned (.iface 100 (.agg #[.int .i64 12, .int .i64 d, .int .i64 a, .int .i64 k])) ∧ Below w.heap.size w w' := by
  go_enter Tryz.func81, Tryz.ntmps81
  go_wp2
  go_ret
  exact ⟨rfl, (Below.refl _ _).alloc (Nat.le_refl _) _⟩
theorem formOf_13 (d a k : Int) (w : World) : Calls Tryz.prog 81 #[.agg #[.int .i64 13, .int .i64 d, .int .i64 a, .int .i64 k]] w fun e w' => e = .returned (.iface 102 (.agg #[.int .i64 a])) ∧ Below w.heap.size w w' := by
  go_enter Tryz.func81, Tryz.ntmps81
  go_wp2
  go_ret
  exact ⟨rfl, (Below.refl _ _).alloc (Nat.le_refl _) _⟩
theorem formOf_14 (d a k : Int) (w : World) : Calls Tryz.prog 81 #[.agg #[.int .i64 14, .int .i64 d, .int .i64 a, .int .i64 k]] w fun e w' => e = .returned (.iface 104 (.agg #[.int .i64 14, .int .i64 d])) ∧ Below w.heap.size w w' := by
  go_enter Tryz.func81, Tryz.ntmps81
  go_wp2
  go_ret
  exact ⟨rfl, (Below.refl _ _).alloc (Nat.le_refl _) _⟩
theorem formOf_15 (d a k : Int) (w : World) : Calls Tryz.prog 81 #[.agg #[.int .i64 15, .int .i64 d, .int .i64 a, .int .i64 k]] w fun e w' => e = .returned (.iface 104 (.agg #[.int .i64 15, .int .i64 d])) ∧ Below w.heap.size w w' := by
  go_enter Tryz.func81, Tryz.ntmps81
  go_wp2
  go_ret
  exact ⟨rfl, (Below.refl _ _).alloc (Nat.le_refl _) _⟩
theorem formOf_no (op d a k : Int) (w : World) (h : ¬ (0 ≤ op ∧ op ≤ 15)) : Calls Tryz.prog 81 #[.agg #[.int .i64 op, .int .i64 d, .int .i64 a, .int .i64 k]] w fun e w' => e = .returned (.iface 106 (.agg #[])) ∧ Below w.heap.size w w' := by
  have b0 : (op == 0) = false := beq_eq_false_iff_ne.2 (by omega)
  have b1 : (op == 1) = false := beq_eq_false_iff_ne.2 (by omega)
  have b2 : (op == 2) = false := beq_eq_false_iff_ne.2 (by omega)
  have b3 : (op == 3) = false := beq_eq_false_iff_ne.2 (by omega)
  have b4 : (op == 4) = false := beq_eq_false_iff_ne.2 (by omega)
  have b5 : (op == 5) = false := beq_eq_false_iff_ne.2 (by omega)
  have b6 : (op == 6) = false := beq_eq_false_iff_ne.2 (by omega)
  have b7 : (op == 7) = false := beq_eq_false_iff_ne.2 (by omega)
  have b8 : (op == 8) = false := beq_eq_false_iff_ne.2 (by omega)
  have b9 : (op == 9) = false := beq_eq_false_iff_ne.2 (by omega)
  have b10 : (op == 10) = false := beq_eq_false_iff_ne.2 (by omega)
  have b11 : (op == 11) = false := beq_eq_false_iff_ne.2 (by omega)
  have b12 : (op == 12) = false := beq_eq_false_iff_ne.2 (by omega)
  have b13 : (op == 13) = false := beq_eq_false_iff_ne.2 (by omega)
  have b14 : (op == 14) = false := beq_eq_false_iff_ne.2 (by omega)
  have b15 : (op == 15) = false := beq_eq_false_iff_ne.2 (by omega)
  clear h
  go_enter Tryz.func81, Tryz.ntmps81
  go_wp2
  go_ret
  exact ⟨rfl, (Below.refl _ _).alloc (Nat.le_refl _) _⟩
theorem ok_0 (d a k : Int) : okB 0 d a k = ((inB k 0 3) && decide (d = 0 ∧ a = 0)) := by
  rw [Bool.eq_iff_iff]
  simp [okB, inB, formB]
  try omega
theorem ok_1 (d a k : Int) : okB 1 d a k = ((inB d 0 3 && inB k 0 255) && decide (a = 0)) := by
  rw [Bool.eq_iff_iff]
  simp [okB, inB, formB]
  try omega
theorem ok_2 (d a k : Int) : okB 2 d a k = ((inB d 0 3 && inB a 0 3) && decide (k = 0)) := by
  rw [Bool.eq_iff_iff]
  simp [okB, inB, formB]
  try omega
theorem ok_3 (d a k : Int) : okB 3 d a k = ((inB d 0 3 && inB a 0 3 && inB k 0 3) && true) := by
  rw [Bool.eq_iff_iff]
  simp [okB, inB, formB]
  try omega
theorem ok_4 (d a k : Int) : okB 4 d a k = ((inB d 0 3 && inB a 0 3 && inB k 0 3) && true) := by
  rw [Bool.eq_iff_iff]
  simp [okB, inB, formB]
  try omega
theorem ok_5 (d a k : Int) : okB 5 d a k = ((inB d 0 3 && inB a 0 3 && inB k 0 3) && true) := by
  rw [Bool.eq_iff_iff]
  simp [okB, inB, formB]
  try omega
theorem ok_6 (d a k : Int) : okB 6 d a k = ((inB d 0 3 && inB a 0 3 && inB k 0 3) && true) := by
  rw [Bool.eq_iff_iff]
  simp [okB, inB, formB]
  try omega
theorem ok_7 (d a k : Int) : okB 7 d a k = ((inB d 0 3 && inB a 0 3 && inB k 0 3) && true) := by
  rw [Bool.eq_iff_iff]
  simp [okB, inB, formB]
  try omega
theorem ok_8 (d a k : Int) : okB 8 d a k = ((inB d 0 3 && inB a 0 3 && inB k 0 15) && true) := by
  rw [Bool.eq_iff_iff]
  simp [okB, inB, formB]
  try omega
theorem ok_9 (d a k : Int) : okB 9 d a k = ((inB d 0 3 && inB a 0 3 && inB k 0 255) && true) := by
  rw [Bool.eq_iff_iff]
  simp [okB, inB, formB]
  try omega
theorem ok_10 (d a k : Int) : okB 10 d a k = ((inB d 0 3 && inB a 0 3 && inB k 0 255) && true) := by
  rw [Bool.eq_iff_iff]
  simp [okB, inB, formB]
  try omega
theorem ok_11 (d a k : Int) : okB 11 d a k = ((inB d 0 3 && inB a 0 3 && inB k 0 255) && true) := by
  rw [Bool.eq_iff_iff]
  simp [okB, inB, formB]
  try omega
theorem ok_12 (d a k : Int) : okB 12 d a k = ((inB d 0 3 && inB a 0 3 && inB k 0 255) && true) := by
  rw [Bool.eq_iff_iff]
  simp [okB, inB, formB]
  try omega
theorem ok_13 (d a k : Int) : okB 13 d a k = ((inB a 0 3) && decide (d = 0 ∧ k = 0)) := by
  rw [Bool.eq_iff_iff]
  simp [okB, inB, formB]
  try omega
theorem ok_14 (d a k : Int) : okB 14 d a k = ((inB d 0 3) && decide (a = 0 ∧ k = 0)) := by
  rw [Bool.eq_iff_iff]
  simp [okB, inB, formB]
  try omega
theorem ok_15 (d a k : Int) : okB 15 d a k = ((inB d 0 3) && decide (a = 0 ∧ k = 0)) := by
  rw [Bool.eq_iff_iff]
  simp [okB, inB, formB]
  try omega
end Go.Proofs.YtnhpmbhphbphaaaGreat.InsI
