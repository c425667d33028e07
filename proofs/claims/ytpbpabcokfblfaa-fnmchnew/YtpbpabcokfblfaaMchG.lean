/-
  The specification's steps on a copy of a machine: contracts of l3Set, l3Stop, l3Shift.
-/
import Derived.Test.YtpbpabcokfblfaaMchF
namespace Go.Proofs.Ytpbpabcokfblfaa.Mch
open Go.ChangeShapes Go.WideShapes Go.ChangeAt Go.RowKit IntS
theorem mach_int : 27 ≠ 3 := by decide
theorem size_set (w : World) (p : Addr) (v : Value) : (w.setCell p v).heap.size = w.heap.size := by simp
/-- A word so many times doubled. -/
def shiftN (n : Int) : Nat → Int
  | 0 => n
  | k + 1 => (shiftN n k + shiftN n k) % 65536
theorem shift_bd {n : Int} (h0 : 0 ≤ n) (h1 : n < 65536) : ∀ k, 0 ≤ shiftN n k ∧ shiftN n k < 65536
  | 0 => ⟨h0, h1⟩
  | k + 1 => by unfold shiftN; omega
end Go.Proofs.Ytpbpabcokfblfaa.Mch
