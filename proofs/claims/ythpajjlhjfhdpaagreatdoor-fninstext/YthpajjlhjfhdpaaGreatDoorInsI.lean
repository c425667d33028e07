/-
  Contracts of the program's functions of chapter 2 without texts (InsOk, InsPut, InsTake, InsEnds), each at every argument.
-/
import Derived.Test.YthpajjlhjfhdpaaGreatDoorInsC2
import Derived.Test.YthpajjlhjfhdpaaGreatDoorInsIa
import Derived.Test.YthpajjlhjfhdpaaGreatDoorInsIb
import Derived.Test.YthpajjlhjfhdpaaGreatDoorInsIc
namespace Go.Proofs.YthpajjlhjfhdpaaGreatDoor.InsI
open Go.ChangeShapes Go.WideShapes Go.ChangeAt Go.RowKit Ins
theorem insOk (op d a k : Int) (w : World) : Calls Tryz.prog 10 #[.agg #[.int .i64 op, .int .i64 d, .int .i64 a, .int .i64 k]] w fun e w' => e = .returned (.bool (okB op d a k)) ∧ Below w.heap.size w w' := by
  by_cases h : 0 ≤ op ∧ op ≤ 15
  · have h : op = 0 ∨ op = 1 ∨ op = 2 ∨ op = 3 ∨ op = 4 ∨ op = 5 ∨ op = 6 ∨ op = 7 ∨ op = 8 ∨ op = 9 ∨ op = 10 ∨ op = 11 ∨ op = 12 ∨ op = 13 ∨ op = 14 ∨ op = 15 := by omega
    rcases h with rfl | rfl | rfl | rfl | rfl | rfl | rfl | rfl | rfl | rfl | rfl | rfl | rfl | rfl | rfl | rfl
    · exact insOk_0 d a k w
    · exact insOk_1 d a k w
    · exact insOk_2 d a k w
    · exact insOk_3 d a k w
    · exact insOk_4 d a k w
    · exact insOk_5 d a k w
    · exact insOk_6 d a k w
    · exact insOk_7 d a k w
    · exact insOk_8 d a k w
    · exact insOk_9 d a k w
    · exact insOk_10 d a k w
    · exact insOk_11 d a k w
    · exact insOk_12 d a k w
    · exact insOk_13 d a k w
    · exact insOk_14 d a k w
    · exact insOk_15 d a k w
  · exact insOk_no op d a k w h
theorem implOk_t (n : Int) (w : World) (h0 : 0 ≤ n) (h1 : n < 65536) : Calls Tryz.prog 33 #[.int .i64 n] w fun e w' => e = .returned (.bool true) ∧ w' = w := by
  go_enter Tryz.func33, Tryz.ntmps33
  go_wp2
  go_ret
  exact ⟨rfl, rfl⟩
theorem implOk_f (n : Int) (w : World) (h : ¬ (0 ≤ n ∧ n < 65536)) : Calls Tryz.prog 33 #[.int .i64 n] w fun e w' => e = .returned (.bool false) ∧ w' = w := by
  by_cases h0 : 0 ≤ n
  · have h1 : ¬ n < 65536 := by omega
    go_enter Tryz.func33, Tryz.ntmps33
    go_wp2
    go_ret
    exact ⟨rfl, rfl⟩
  · go_enter Tryz.func33, Tryz.ntmps33
    go_wp2
    go_ret
    exact ⟨rfl, rfl⟩
end Go.Proofs.YthpajjlhjfhdpaaGreatDoor.InsI
