/-
  Contracts of the specification's functions of chapter 2 without texts (l1In, l2Form, InsOk, InsPut, InsTake, InsEnds), and of the laws' own toInsIns and eqInsIns, each at every argument.
-/
import Derived.Test.YtpbpabcokfblfaaShape
import Derived.Test.YtpbpabcokfblfaaProg
import Derived.WalkKit
import Derived.WalkSpells
import Derived.ProofKit
import Derived.OwnWalk
namespace Go.Proofs.Ytpbpabcokfblfaa.Ins
open Go.ChangeShapes Go.WideShapes Go.ChangeAt Go.RowKit

theorem four {l : List Value} (h : l.length = 4) : ∃ a b c d, l = [a, b, c, d] := by
  match l, h with
  | [a, b, c, d], _ => exact ⟨a, b, c, d, rfl⟩
theorem cells1 : Try.prog.cellsOf 3 = 1 := by kernel_rfl
def inB (n lo hi : Int) : Bool := decide (lo ≤ n ∧ n ≤ hi)
theorem inB_t {n lo hi : Int} (h : inB n lo hi = true) : lo ≤ n ∧ n ≤ hi := of_decide_eq_true h
theorem inB_f {n lo hi : Int} (h : inB n lo hi = false) : ¬ (lo ≤ n ∧ n ≤ hi) := of_decide_eq_false h
/-- What an instruction of a kind has. -/
def formB (op d a k : Int) : Bool :=
  if op = 0 then decide (d = 0 ∧ a = 0 ∧ k ≤ 3)
  else if op = 1 then decide (a = 0)
  else if op = 2 then decide (k = 0)
  else if 3 ≤ op ∧ op ≤ 7 then decide (k < 4)
  else if op = 8 then decide (k < 16)
  else if op = 13 then decide (d = 0 ∧ k = 0)
  else if op = 14 ∨ op = 15 then decide (a = 0 ∧ k = 0)
  else true
/-- An instruction is ok. -/
def okB (op d a k : Int) : Bool := inB op 0 15 && inB d 0 3 && inB a 0 3 && inB k 0 255 && formB op d a k

theorem beq_dec (a b : Int) : (a == b) = decide (a = b) := by
  by_cases h : a = b <;> simp [h]
theorem ret_bool {a b : Bool} (h : a = b) : Ending.returned (.bool a) = .returned (.bool b) := by rw [h]
/-- The word that says an instruction. -/
def putN (op d a k : Int) : Int := if okB op d a k then op * 4096 + d * 1024 + a * 256 + k else 0
theorem okB_bd {op d a k : Int} (h : okB op d a k = true) : 0 ≤ op ∧ op ≤ 15 ∧ 0 ≤ d ∧ d ≤ 3 ∧ 0 ≤ a ∧ a ≤ 3 ∧ 0 ≤ k ∧ k ≤ 255 ∧ formB op d a k = true := by
  unfold okB at h
  simp only [Bool.and_eq_true] at h
  obtain ⟨⟨⟨⟨h1, h2⟩, h3⟩, h4⟩, h5⟩ := h
  have := inB_t h1
  have := inB_t h2
  have := inB_t h3
  have := inB_t h4
  exact ⟨by omega, by omega, by omega, by omega, by omega, by omega, by omega, by omega, h5⟩
theorem ret_int {k : IntKind} {a b : Int} (h : a = b) : Ending.returned (.int k a) = .returned (.int k b) := by rw [h]
theorem cell_below {w w' : World} (hb : Below w.heap.size w w') {p : Addr} {v : Value} (h : w.cell? p = some v) : w'.cell? p = some v := (hb.cell (World.block_lt_of_cell? w p h)).trans h
end Go.Proofs.Ytpbpabcokfblfaa.Ins
